/- Orders by value. -/
import Derived.Test.YtohachldbpejpaaGreatDoorZlIn
import Derived.Lib.QuietBelow
set_option maxRecDepth 20000
set_option maxHeartbeats 1000000
namespace Go.Proofs.YtohachldbpejpaaGreatDoor
open Go.RowKit
set_option linter.unusedVariables false
def nbB (x:Int):Bool:=inB x 97 122 || inB x 48 57
def nmB (s:ByteArray):Bool:=s.data.toList.all (fun c=>nbB (c.toNat:Int)) && inB s.size 1 8
theorem take_snoc (s:ByteArray) (k:Nat) (h:k < s.size):s.data.toList.take (k+1)=s.data.toList.take k ++ [s[k]]:=by
  rw [List.take_succ_eq_append_getElem (by simpa using h)];rfl
theorem all_snoc (s:ByteArray) (k:Nat) (h:k < s.size) (p:UInt8->Bool) (h1:(s.data.toList.take k).all p=true) (h2:p s[k]=true):(s.data.toList.take (k+1)).all p=true:=by
  rw [take_snoc s k h,List.all_append,h1];simp [h2]
theorem all_not (s:ByteArray) (k:Nat) (h:k < s.size) (p:UInt8->Bool) (h2:p s[k]=false):s.data.toList.all p=false:=by
  rw [Bool.eq_false_iff];intro ha
  rw [List.all_eq_true] at ha
  have:=ha s[k] (by simp [ByteArray.getElem_eq_getElem_data])
  rw [h2] at this;cases this
theorem all_whole (s:ByteArray) (p:UInt8->Bool) (h:(s.data.toList.take s.size).all p=true):s.data.toList.all p=true:=by
  rwa [List.take_of_length_le (by simp)] at h
theorem isNameByte_any (x:Int) (w:World) :
    Calls Tryz.prog 204 #[.int .u8 x] w fun e w'=>e=.returned (.bool (nbB x))/\w'=w:=by
  rcases (show (97<=x/\x<=122)\/(122 < x)\/(57 < x/\x < 97)\/(48<=x/\x<=57)\/x < 48 from by omega) with h | h | h | h | h
  all_goals
    have e:Hid (nbB x=decide ((97<=x/\x<=122)\/(48<=x/\x<=57))):=hide (by simp only [nbB,inB,Bool.or_eq_decide];simp)
    go_enter Tryz.func204,Tryz.ntmps204
    go_wp2
    go_ret
    exact ⟨ret_bool (by rw [e.out,Bool.eq_iff_iff];simp only [Bool.or_eq_true,decide_eq_true_eq,Bool.false_eq_true,true_iff,false_iff];omega),rfl⟩
theorem specNameOk_any (s:ByteArray) (w:World) (hs:s.size<=maxLen) :
    Calls Tryz.prog 182 #[.string s] w fun e w'=>e=.returned (.bool (nmB s))/\w'=w:=by
  unfold maxLen at hs
  go_enter Tryz.func182,Tryz.ntmps182
  go_wp2
  go_loop [3] (fun i=>∃ k:Nat,k<=s.size/\i=.int .i64 k/\(s.data.toList.take k).all (fun c=>nbB (c.toNat:Int))=true) (fun i=>s.size - (intOf i).toNat)
  case atStart=>exact ⟨0,Nat.zero_le _,rfl,rfl⟩
  case round =>
    obtain ⟨k,hk,rfl,hall⟩:=hrel
    by_cases hlt:k < s.size
    · have Hall:=hide hall
      clear hall
      have hb:(s[k].toNat:Int) < 256:=by have:=s[k].toNat_lt;omega
      cases h1:inB (s[k].toNat:Int) 97 122
      · cases h2:inB (s[k].toNat:Int) 48 57
        · have hf:Hid (nmB s=false):=hide (by unfold nmB;rw [all_not s k hlt _ (by simp only [nbB,h1,h2];rfl)];rfl)
          go_wp2_with (go_at_call 181;refine (l1In_any _ _ _ _).mono ?_;rintro e w' ⟨rfl,rfl⟩)
          go_ret
          rw [hf.out];exact ⟨rfl,rfl⟩
        · have hn:Hid (nbB (s[k].toNat:Int)=true):=hide (by simp [nbB,h1,h2])
          go_wp2_with (go_at_call 181;refine (l1In_any _ _ _ _).mono ?_;rintro e w' ⟨rfl,rfl⟩)
          go_round
          case rel=>exact ⟨k+1,by omega,by go_num,all_snoc s k hlt _ Hall.out hn.out⟩
          case measure=>simp [intOf];omega
      · have hn:Hid (nbB (s[k].toNat:Int)=true):=hide (by simp [nbB,h1])
        go_wp2_with (go_at_call 181;refine (l1In_any _ _ _ _).mono ?_;rintro e w' ⟨rfl,rfl⟩)
        go_round
        case rel=>exact ⟨k+1,by omega,by go_num,all_snoc s k hlt _ Hall.out hn.out⟩
        case measure=>simp [intOf];omega
    · have hf:Hid (nmB s=inB s.size 1 8):=hide (by
        have:k=s.size:=by omega
        subst this
        unfold nmB;rw [all_whole s _ hall];rfl)
      clear hall
      go_wp2_with (go_at_call 181;refine (l1In_any _ _ _ _).mono ?_;rintro e w' ⟨rfl,rfl⟩)
      go_ret
      rw [hf.out];exact ⟨rfl,rfl⟩
theorem implNameOk_any (s:ByteArray) (w:World) (hs:s.size<=maxLen) :
    Calls Tryz.prog 163 #[.string s] w fun e w'=>e=.returned (.bool (nmB s))/\w'=w:=by
  unfold maxLen at hs
  rcases (show s.size < 1\/8 < s.size\/(1<=s.size/\s.size<=8) from by omega) with h | h | h
  · have hf:Hid (nmB s=false):=hide (by unfold nmB inB;rw [decide_eq_false (by omega)];simp)
    go_enter Tryz.func163,Tryz.ntmps163
    go_wp2
    go_ret
    rw [hf.out];exact ⟨rfl,rfl⟩
  · have hf:Hid (nmB s=false):=hide (by unfold nmB inB;rw [decide_eq_false (by omega)];simp)
    have h':¬ s.size < 1:=by omega
    go_enter Tryz.func163,Tryz.ntmps163
    go_wp2
    go_ret
    rw [hf.out];exact ⟨rfl,rfl⟩
  · have hin:inB s.size 1 8=true:=by unfold inB;rw [decide_eq_true (by omega)]
    have Hin:=hide hin
    clear hin
    go_enter Tryz.func163,Tryz.ntmps163
    go_wp2
    go_loop [14] (fun i=>∃ k:Nat,k<=s.size/\i=.int .i64 k/\(s.data.toList.take k).all (fun c=>nbB (c.toNat:Int))=true) (fun i=>s.size - (intOf i).toNat)
    case atStart=>exact ⟨0,Nat.zero_le _,rfl,rfl⟩
    case round =>
      obtain ⟨k,hk,rfl,hall⟩:=hrel
      by_cases hlt:k < s.size
      · have Hall:=hide hall
        clear hall
        cases h1:nbB (s[k].toNat:Int)
        · have hf:Hid (nmB s=false):=hide (by unfold nmB;rw [all_not s k hlt _ h1];rfl)
          go_wp2_with (go_at_call 204;refine (isNameByte_any _ _).mono ?_;rintro e w' ⟨rfl,rfl⟩)
          go_ret
          rw [hf.out];exact ⟨rfl,rfl⟩
        · have hn:=hide h1
          go_wp2_with (go_at_call 204;refine (isNameByte_any _ _).mono ?_;rintro e w' ⟨rfl,rfl⟩)
          go_round
          case rel=>exact ⟨k+1,by omega,by go_num,all_snoc s k hlt _ Hall.out hn.out⟩
          case measure=>simp [intOf];omega
      · have hf:Hid (nmB s=true):=hide (by
          have:k=s.size:=by omega
          subst this
          unfold nmB;rw [all_whole s _ hall,Hin.out];rfl)
        clear hall
        go_wp2
        go_ret
        rw [hf.out];exact ⟨rfl,rfl⟩
def okAt (ls:List ByteArray) (i:Nat):Bool:=nmB (ls.getD i ByteArray.empty) && (decide (i=0) || Op.bytesLess (ls.getD (i - 1) ByteArray.empty).toList (ls.getD i ByteArray.empty).toList)
def nmsB (ls:List ByteArray):Bool:=(List.range ls.length).all (okAt ls) && decide (ls.length<=20)
theorem nms_no (ls:List ByteArray) (k:Nat) (h:k < ls.length) (hk:okAt ls k=false):nmsB ls=false:=by
  unfold nmsB
  rw [Bool.and_eq_false_iff]
  left
  rw [Bool.eq_false_iff];intro ha
  rw [List.all_eq_true] at ha
  have:=ha k (by simpa using h)
  rw [hk] at this;cases this
theorem nms_yes (ls:List ByteArray) (h:∀ j,j < ls.length->okAt ls j=true):nmsB ls=decide (ls.length<=20):=by
  unfold nmsB
  have:(List.range ls.length).all (okAt ls)=true:=by
    rw [List.all_eq_true];intro j hj;exact h j (by simpa using hj)
  rw [this];rfl
theorem okAt_eq (ls:List ByteArray) (k:Nat) (s:ByteArray) (h:k < ls.length) (hs:ls[k]=s):okAt ls k=(nmB s && (decide (k=0) || Op.bytesLess (ls.getD (k - 1) ByteArray.empty).toList s.toList)):=by
  have:ls.getD k ByteArray.empty=s:=by rw [List.getD_eq_getElem?_getD,List.getElem?_eq_getElem h,<- hs];rfl
  unfold okAt;rw [this]
theorem specNamesOk_any (v:Value) (ls:List ByteArray) (w:World) (hr:RdS w v ls) (hl:ls.length<=4000000) (hs:∀ s ∈ ls,s.size<=maxLen) :
    Calls Tryz.prog 216 #[v] w fun e w'=>e=.returned (.bool (nmsB ls))/\Sm w w':=by
  rcases hr with ⟨a,cap,rfl,rfl,-⟩ | ⟨b,off,cap,h0,rfl,h1,h2,h3,h4⟩
  · go_enter Tryz.func216,Tryz.ntmps216
    go_wp2
    refine wp_loop_rounds 1 ?_
    rw [rounds_succ]
    go_wp2
    go_ret
    exact ⟨rfl,Sm.refl _⟩
  · have H4 := hide h4
    have Hs:=hide hs
    clear h4 hs
    go_enter Tryz.func216,Tryz.ntmps216
    go_wp2
    go_loopw [3] (fun i wr=>∃ k:Nat,k<=ls.length/\i=.int .i64 k/\(∀ j,j < k->okAt ls j=true)/\Sm w wr) (fun i _=>ls.length - (intOf i).toNat)
    case atStart=>exact ⟨0,Nat.zero_le _,rfl,fun j hj=>by omega,Sm.refl _⟩
    case round =>
      obtain ⟨k,hk,rfl,hall,hsm⟩:=hrel
      have Hall:=hide hall
      have Hsm:=hide hsm
      by_cases hlt:k < ls.length
      · have hc : wr.cell? ⟨b,off+k,none⟩=some (.string ls[k]):=(hsm.cell _).trans (H4.out k hlt)
        have hsz:=Hs.out ls[k] (List.getElem_mem hlt)
        have Hok:=hide (okAt_eq ls k ls[k] hlt rfl)
        have Hno:=hide (nms_no ls k hlt)
        have hli:(k:Int) < (ls.length:Int):=by omega
        have hprev:k ≥ 1->wr.cell? ⟨b,off+(k - 1),none⟩=some (.string (ls.getD (k - 1) ByteArray.empty)):=fun hk1=>by
          have h:=(hsm.cell _).trans (H4.out (k - 1) (by omega))
          rw [h];rw [List.getD_eq_getElem?_getD,List.getElem?_eq_getElem (by omega)];rfl
        clear hall hsm
        generalize ls[k]=s at hc hsz Hok
        generalize ls.getD (k - 1) ByteArray.empty=p at hprev Hok
        have Hq:=hide (fun w=>specNameOk_any s w hsz)
        clear hsz
        cases hn:nmB s
        · have hf:=hide (Hno.out (by rw [Hok.out,hn];rfl))
          rw [hn] at Hq
          clear hn hprev
          go_wp2
          go_quiet ((go_at_call 182;exact Calls.quiet_of_same (Hq.out _)))
          go_wp2
          go_ret
          exact ⟨ret_bool hf.out.symm,Hsm.out.drewN _⟩
        · rw [hn] at Hq
          by_cases hk1:k < 1
          · have hd:decide (0 < k)=false:=by simp;omega
            have hd2:decide ((0:Int) < (k:Int))=false:=by simp;omega
            have Hnx:Hid (okAt ls k=true):=hide (by rw [Hok.out,hn,show k=0 from by omega];rfl)
            clear hn hprev
            go_wp2
            go_quiet ((go_at_call 182;exact Calls.quiet_of_same (Hq.out _)))
            go_wp2
            go_roundw
            case rel=>exact ⟨k+1,by omega,by go_num,fun j hj=>by
                          by_cases hjk:j=k
                          · subst hjk;exact Hnx.out
                          · exact Hall.out j (by omega),Hsm.out.drewN _⟩
            case measure=>simp [intOf];omega
          · have hcp:=hprev (by omega)
            clear hprev
            have hpos:(0:Int) < (k:Int):=by omega
            have hposN:0 < k:=by omega
            have hd1:decide (0 < k)=true:=by simp;omega
            have hix:((k:Int) - 1).toNat=k - 1:=by omega
            have hix1:(0:Int)<=(k:Int) - 1:=by omega
            have hix2:(k:Int) - 1 < (ls.length:Int):=by omega
            cases hless:Op.bytesLess p.toList s.toList
            · have hf:=hide (Hno.out (by rw [Hok.out,hn,hless];simp;omega))
              clear hn
              go_wp2
              go_quiet ((go_at_call 182;exact Calls.quiet_of_same (Hq.out _)))
              go_wp2
              go_ret
              exact ⟨ret_bool hf.out.symm,Hsm.out.drewN _⟩
            · have Hnx:Hid (okAt ls k=true):=hide (by rw [Hok.out,hn,hless];simp)
              clear hn
              go_wp2
              go_quiet ((go_at_call 182;exact Calls.quiet_of_same (Hq.out _)))
              go_wp2
              go_roundw
              case rel=>exact ⟨k+1,by omega,by go_num,fun j hj=>by
                            by_cases hjk:j=k
                            · subst hjk;exact Hnx.out
                            · exact Hall.out j (by omega),Hsm.out.drewN _⟩
              case measure=>simp [intOf];omega
      · have hf:=hide (nms_yes ls (fun j hj=>Hall.out j (by omega)))
        clear hall hsm
        go_wp2
        go_ret
        exact ⟨ret_bool (by rw [hf.out,Bool.eq_iff_iff];simp only [decide_eq_true_eq];omega),Hsm.out⟩
theorem implNamesOk_any (v:Value) (ls:List ByteArray) (w:World) (hr:RdS w v ls) (hl:ls.length<=4000000) (hs:∀ s ∈ ls,s.size<=maxLen) :
    Calls Tryz.prog 218 #[v] w fun e w'=>e=.returned (.bool (nmsB ls))/\w'=w:=by
  by_cases h20:20 < ls.length
  · have hf:Hid (nmsB ls=false):=hide (by unfold nmsB;rw [decide_eq_false (by omega)];simp)
    obtain ⟨a,cap,rfl⟩:=hr.shape
    clear hr hs
    go_enter Tryz.func218,Tryz.ntmps218
    go_wp2
    go_ret
    exact ⟨ret_bool hf.out.symm,rfl⟩
  rcases hr with ⟨a,cap,rfl,rfl,-⟩ | ⟨b,off,cap,h0,rfl,h1,h2,h3,h4⟩
  · go_enter Tryz.func218,Tryz.ntmps218
    go_wp2
    refine wp_loop_rounds 1 ?_
    rw [rounds_succ]
    go_wp2
    go_ret
    exact ⟨rfl,rfl⟩
  · have H4 := hide h4
    have Hs:=hide hs
    clear h4 hs
    go_enter Tryz.func218,Tryz.ntmps218
    go_wp2
    go_loop [10] (fun i=>∃ k:Nat,k<=ls.length/\i=.int .i64 k/\(∀ j,j < k->okAt ls j=true)) (fun i=>ls.length - (intOf i).toNat)
    case atStart=>exact ⟨0,Nat.zero_le _,rfl,fun j hj=>by omega⟩
    case round =>
      obtain ⟨k,hk,rfl,hall⟩:=hrel
      have Hall:=hide hall
      by_cases hlt:k < ls.length
      · have hc : w.cell? ⟨b,off+k,none⟩=some (.string ls[k]):=H4.out k hlt
        have hsz:=Hs.out ls[k] (List.getElem_mem hlt)
        have Hok:=hide (okAt_eq ls k ls[k] hlt rfl)
        have Hno:=hide (nms_no ls k hlt)
        have hli:(k:Int) < (ls.length:Int):=by omega
        have hprev:k ≥ 1->w.cell? ⟨b,off+(k - 1),none⟩=some (.string (ls.getD (k - 1) ByteArray.empty)):=fun hk1=>by
          rw [H4.out (k - 1) (by omega)];rw [List.getD_eq_getElem?_getD,List.getElem?_eq_getElem (by omega)];rfl
        clear hall
        generalize ls[k]=s at hc hsz Hok
        generalize ls.getD (k - 1) ByteArray.empty=p at hprev Hok
        have Hq:=hide (fun w=>implNameOk_any s w hsz)
        clear hsz
        cases hn:nmB s
        · have hf:=hide (Hno.out (by rw [Hok.out,hn];rfl))
          rw [hn] at Hq
          clear hn hprev
          go_wp2_with (go_at_call 163;refine (Hq.out _).mono ?_;rintro e w' ⟨rfl,rfl⟩)
          go_ret
          exact ⟨ret_bool hf.out.symm,rfl⟩
        · rw [hn] at Hq
          by_cases hk1:k < 1
          · have Hnx:Hid (okAt ls k=true):=hide (by rw [Hok.out,hn,show k=0 from by omega];rfl)
            clear hn hprev
            go_wp2_with (go_at_call 163;refine (Hq.out _).mono ?_;rintro e w' ⟨rfl,rfl⟩)
            go_round
            case rel=>exact ⟨k+1,by omega,by go_num,fun j hj=>by
                          by_cases hjk:j=k
                          · subst hjk;exact Hnx.out
                          · exact Hall.out j (by omega)⟩
            case measure=>simp [intOf];omega
          · have hcp:=hprev (by omega)
            clear hprev
            have hpos:(0:Int) < (k:Int):=by omega
            have hposN:0 < k:=by omega
            have hix:((k:Int) - 1).toNat=k - 1:=by omega
            have hix1:(0:Int)<=(k:Int) - 1:=by omega
            have hix2:(k:Int) - 1 < (ls.length:Int):=by omega
            cases hless:Op.bytesLess p.toList s.toList
            · have hf:=hide (Hno.out (by rw [Hok.out,hn,hless];simp;omega))
              clear hn
              go_wp2_with (go_at_call 163;refine (Hq.out _).mono ?_;rintro e w' ⟨rfl,rfl⟩)
              go_ret
              exact ⟨ret_bool hf.out.symm,rfl⟩
            · have Hnx:Hid (okAt ls k=true):=hide (by rw [Hok.out,hn,hless];simp)
              clear hn
              go_wp2_with (go_at_call 163;refine (Hq.out _).mono ?_;rintro e w' ⟨rfl,rfl⟩)
              go_round
              case rel=>exact ⟨k+1,by omega,by go_num,fun j hj=>by
                            by_cases hjk:j=k
                            · subst hjk;exact Hnx.out
                            · exact Hall.out j (by omega)⟩
              case measure=>simp [intOf];omega
      · have hf:=hide (nms_yes ls (fun j hj=>Hall.out j (by omega)))
        clear hall
        go_wp2
        go_ret
        exact ⟨ret_bool (by rw [hf.out,eq_comm,decide_eq_true_eq];omega),rfl⟩
def ModV (l:List Vl):Prop:=(0<=totalV l/\totalV l<=1000000000)/\∀ ns,0<=weightV l ns/\weightV l ns<=1000000000
def qcV (r b:Int) (vw:Value):Value:=.agg #[.int .i64 r,.int .i64 b,vw]
def rootB (r b:Int) (ns:List ByteArray):Bool:=decide (r=0) && (decide (b=-1) && decide (ns.length=0))
def allV (l:List Vl) (ns:List ByteArray):Bool:=ns.all (fun s=>hasN (l.map (·.1)) s) && nmsB ns
def quoB (l:List Vl) (ns:List ByteArray):Bool:=decide (2 * totalV l < 3 * weightV l ns)
def qcB (l:List Vl) (r b:Int) (ns:List ByteArray):Bool:=rootB r b ns || (inB r 1 10000 && (inB b 0 100000 && (allV l ns && quoB l ns)))
theorem specL8Root_any (r b:Int) (vw:Value) (ws:List ByteArray) (w:World) (hrw:RdS w vw ws) (hlw:ws.length<=4000000) :
    Calls Tryz.prog 135 #[qcV r b vw] w fun e w'=>e=.returned (.bool (rootB r b ws))/\Below w.heap.size w w':=by
  obtain ⟨a,c,rfl⟩:=hrw.shape
  clear hrw
  simp only [qcV]
  have HB:=hide ((Below.refl _ w).alloc (Nat.le_refl _) (.cells #[.int .i64 r,.int .i64 b,.slice a ws.length c] 44))
  by_cases h1:r=0
  · by_cases h2:b=-1
    · by_cases h3:ws.length=0
      · have Hf:Hid (rootB r b ws=true):=hide (by unfold rootB;rw [decide_eq_true h1,decide_eq_true h2,decide_eq_true h3];rfl)
        have h3i:((ws.length:Int) == 0)=true:=by rw [beq_iff_eq];omega
        subst h1 h2
        generalize rootB 0 (-1) ws=X at Hf ⊢
        clear h3
        go_enter Tryz.func135,Tryz.ntmps135
        go_wp2
        go_ret
        exact ⟨ret_bool Hf.out.symm,HB.out⟩
      · have Hf:Hid (rootB r b ws=false):=hide (by unfold rootB;rw [decide_eq_false h3,Bool.and_false,Bool.and_false])
        have h3i:((ws.length:Int) == 0)=false:=by rw [beq_eq_false_iff_ne];omega
        subst h1 h2
        generalize rootB 0 (-1) ws=X at Hf ⊢
        go_enter Tryz.func135,Tryz.ntmps135
        go_wp2
        go_ret
        exact ⟨ret_bool Hf.out.symm,HB.out⟩
    · have Hf:Hid (rootB r b ws=false):=hide (by unfold rootB;rw [decide_eq_false h2,Bool.false_and,Bool.and_false])
      have h2i:(b == -1)=false:=by rw [beq_eq_false_iff_ne];exact h2
      subst h1
      generalize rootB 0 b ws=X at Hf ⊢
      clear h2
      go_enter Tryz.func135,Tryz.ntmps135
      go_wp2
      go_ret
      exact ⟨ret_bool Hf.out.symm,HB.out⟩
  · have Hf:Hid (rootB r b ws=false):=hide (by unfold rootB;rw [decide_eq_false h1,Bool.false_and])
    have h1i:(r == 0)=false:=by rw [beq_eq_false_iff_ne];exact h1
    generalize rootB r b ws=X at Hf ⊢
    clear h1
    go_enter Tryz.func135,Tryz.ntmps135
    go_wp2
    go_ret
    exact ⟨ret_bool Hf.out.symm,HB.out⟩
end Go.Proofs.YtohachldbpejpaaGreatDoor
namespace Go.Proofs.YtohachldbpejpaaGreatDoor
open Go.RowKit Go.Sort
set_option linter.unusedVariables false
def noneB (r:Int) (ws:List ByteArray) (hs:List Int):Bool:=decide (r=0) && (decide (ws.length=0) && decide (hs.length=0))
def hisB (r:Int) (hs:List Int):Bool:=hs.all (fun h=>inB h 0 (r - 1))
def tcB (l:List Vl) (r:Int) (ws:List ByteArray) (hs:List Int):Bool:=noneB r ws hs || (inB r 1 10000 && (allV l ws && (quoB l ws && (decide (hs.length=ws.length) && hisB r hs))))
theorem specL8None_any (r:Int) (vw vh:Value) (ws:List ByteArray) (hs:List Int) (w:World) (hrw:RdS w vw ws) (hrh:RdI w vh hs) (hlw:ws.length<=4000000) (hlh:hs.length<=4000000) :
    Calls Tryz.prog 217 #[tcV r vw vh] w fun e w'=>e=.returned (.bool (noneB r ws hs))/\Below w.heap.size w w':=by
  obtain ⟨a,c,rfl⟩:=hrw.shape
  obtain ⟨a2,c2,rfl⟩:=hrh.shape
  clear hrw hrh
  simp only [tcV]
  have HB:=hide ((Below.refl _ w).alloc (Nat.le_refl _) (.cells #[.int .i64 r,.slice a ws.length c,.slice a2 hs.length c2] 47))
  by_cases h1:r=0
  · by_cases h2:ws.length=0
    · by_cases h3:hs.length=0
      · have Hf:Hid (noneB r ws hs=true):=hide (by unfold noneB;rw [decide_eq_true h1,decide_eq_true h2,decide_eq_true h3];rfl)
        have h2i:((ws.length:Int) == 0)=true:=by rw [beq_iff_eq];omega
        have h3i:((hs.length:Int) == 0)=true:=by rw [beq_iff_eq];omega
        subst h1
        generalize noneB 0 ws hs=X at Hf ⊢
        clear h2 h3
        go_enter Tryz.func217,Tryz.ntmps217
        go_wp2
        go_ret
        exact ⟨ret_bool Hf.out.symm,HB.out⟩
      · have Hf:Hid (noneB r ws hs=false):=hide (by unfold noneB;rw [decide_eq_false h3,Bool.and_false,Bool.and_false])
        have h2i:((ws.length:Int) == 0)=true:=by rw [beq_iff_eq];omega
        have h3i:((hs.length:Int) == 0)=false:=by rw [beq_eq_false_iff_ne];omega
        subst h1
        generalize noneB 0 ws hs=X at Hf ⊢
        clear h2 h3
        go_enter Tryz.func217,Tryz.ntmps217
        go_wp2
        go_ret
        exact ⟨ret_bool Hf.out.symm,HB.out⟩
    · have Hf:Hid (noneB r ws hs=false):=hide (by unfold noneB;rw [decide_eq_false h2,Bool.false_and,Bool.and_false])
      have h2i:((ws.length:Int) == 0)=false:=by rw [beq_eq_false_iff_ne];omega
      subst h1
      generalize noneB 0 ws hs=X at Hf ⊢
      clear h2
      go_enter Tryz.func217,Tryz.ntmps217
      go_wp2
      go_ret
      exact ⟨ret_bool Hf.out.symm,HB.out⟩
  · have Hf:Hid (noneB r ws hs=false):=hide (by unfold noneB;rw [decide_eq_false h1,Bool.false_and])
    have h1i:(r == 0)=false:=by rw [beq_eq_false_iff_ne];exact h1
    generalize noneB r ws hs=X at Hf ⊢
    clear h1
    go_enter Tryz.func217,Tryz.ntmps217
    go_wp2
    go_ret
    exact ⟨ret_bool Hf.out.symm,HB.out⟩
theorem his_no (r:Int) (hs:List Int) (k:Nat) (h:k < hs.length) (hk:inB hs[k] 0 (r - 1)=false):hisB r hs=false:=by
  unfold hisB
  rw [List.all_eq_false]
  exact ⟨hs[k],List.getElem_mem _,by simp [hk]⟩
theorem his_yes (r:Int) (hs:List Int) (h:∀ j (hj:j < hs.length),inB hs[j] 0 (r - 1)=true):hisB r hs=true:=by
  unfold hisB
  rw [List.all_eq_true]
  intro x hx
  obtain ⟨j,hj,rfl⟩:=List.mem_iff_getElem.1 hx
  exact h j hj
theorem RdI.at {w:World} {a:Option Addr} {cap k:Nat} {l:List Int} (h:RdI w (.slice a l.length cap) l) (hk:k < l.length) :
    ∃ b off,a=some ⟨b,off,none⟩/\l.length<=cap/\cap<=maxLen/\b < w.heap.size/\w.cell? ⟨b,off+k,none⟩=some (.int .i64 l[k]):=by
  rcases h with ⟨a',cap',e,rfl,-⟩ | ⟨b,off,cap',h0,e,h1,h2,h3,h4⟩
  · simp at hk
  · simp only [Value.slice.injEq] at e
    obtain ⟨rfl,-,rfl⟩:=e
    exact ⟨b,off,rfl,h1,h2,h3,h4 k hk⟩
theorem sameC_regrown {P:Program} {f:FuncId} {args:Array Value} {w:World} {d:Nat} {os:Array Obj} {v:Value}
    (h:Calls P f args (grow (redrawn w d) os) fun e w'=>e=.returned v/\w'=grow (redrawn w d) os):Calls P f args (grow (redrawn w d) os) fun e w''=>e=.returned v/\∃ p:Regrown,w''=grow (redrawn w p.d) p.os :=
  h.mono fun _ _ ⟨he,hw⟩=>⟨he,⟨⟨d,os⟩,hw⟩⟩
end Go.Proofs.YtohachldbpejpaaGreatDoor
namespace Go.Proofs.YtohachldbpejpaaGreatDoor
open Go.RowKit
set_option linter.unusedVariables false
abbrev Tx5:=Int × ByteArray × ByteArray × Int × Int
def txV (t:Tx5):Value:=.agg #[.int .i64 t.1,.string t.2.1,.string t.2.2.1,.int .i64 t.2.2.2.1,.int .i64 t.2.2.2.2]
def txB (t:Tx5):Bool:=nmB t.2.1 && (inB t.2.2.2.1 1 1000000 && (inB t.2.2.2.2 0 10000 && (if t.1=1 then nmB t.2.2.1 else (inB t.1 2 3 && decide (t.2.2.1=ByteArray.empty)))))
def lessT (a b:Tx5):Bool :=
  if a.2.1 ≠ b.2.1 then Op.bytesLess a.2.1.toList b.2.1.toList
  else if a.2.2.2.2 ≠ b.2.2.2.2 then decide (a.2.2.2.2 < b.2.2.2.2)
  else if a.1 ≠ b.1 then decide (a.1 < b.1)
  else if a.2.2.1 ≠ b.2.2.1 then Op.bytesLess a.2.2.1.toList b.2.2.1.toList
  else decide (a.2.2.2.1 < b.2.2.2.1)
def szT (t:Tx5) (m:Int):Int:=if m - t.2.1.size < 0 then -1 else if m - t.2.1.size - t.2.2.1.size < 0 then -1 else m - t.2.1.size - t.2.2.1.size
end Go.Proofs.YtohachldbpejpaaGreatDoor
