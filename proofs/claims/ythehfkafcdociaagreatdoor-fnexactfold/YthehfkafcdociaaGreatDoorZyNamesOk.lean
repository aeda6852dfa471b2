/- NamesOk. -/
import Derived.Test.YthehfkafcdociaaGreatDoorZyVsSumI
set_option maxHeartbeats 400000
namespace Go.Proofs.YthehfkafcdociaaGreatDoor
open Go.RowKit
set_option linter.unusedVariables false
def inB (x a b:Int):Bool:=decide (a<=x/\x<=b)
theorem l1In_any (x a b:Int) (w:World) :
    Calls Tryz.prog 23 #[.int .i64 x,.int .i64 a,.int .i64 b] w fun e w'=>e=.returned (.bool (inB x a b))/\w'=w:=by
  by_cases h1:a<=x
  · by_cases h2:x<=b
    · have e:Hid (inB x a b=true):=hide (by simp [inB,h1,h2])
      go_enter Tryz.func23,Tryz.ntmps23
      go_wp2
      go_ret
      rw [e.out];exact ⟨rfl,rfl⟩
    · have e:Hid (inB x a b=false):=hide (by simp [inB,h1,h2])
      go_enter Tryz.func23,Tryz.ntmps23
      go_wp2
      go_ret
      rw [e.out];exact ⟨rfl,rfl⟩
  · have e:Hid (inB x a b=false):=hide (by simp [inB,h1])
    go_enter Tryz.func23,Tryz.ntmps23
    go_wp2
    go_ret
    rw [e.out];exact ⟨rfl,rfl⟩
def nbB (x:Int):Bool:=inB x 97 122 || inB x 48 57
def nmB (s:ByteArray):Bool:=s.data.toList.all (fun c=>nbB (c.toNat:Int)) && inB s.size 1 8
theorem take_snoc (s:ByteArray) (k:Nat) (h:k < s.size):s.data.toList.take (k+1)=s.data.toList.take k ++ [s[k]]:=by
  rw [List.take_succ_eq_append_getElem (by simpa using h)];rfl
theorem all_snoc (s:ByteArray) (k:Nat) (h:k < s.size) (p:UInt8->Bool) (h1:(s.data.toList.take k).all p=true) (h2:p s[k]=true):(s.data.toList.take (k+1)).all p=true:=by
  rw [take_snoc s k h,List.all_append,h1];simp [h2]
theorem all_not (s:ByteArray) (k:Nat) (h:k < s.size) (p:UInt8->Bool) (h2:p s[k]=false):s.data.toList.all p=false:=by
  rw [Bool.eq_false_iff];intro ha
  rw [List.all_eq_true] at ha
  have:=ha s[k] (by simp [ByteArray.getElem_eq_getElem_data])
  rw [h2] at this;cases this
theorem all_whole (s:ByteArray) (p:UInt8->Bool) (h:(s.data.toList.take s.size).all p=true):s.data.toList.all p=true:=by
  rwa [List.take_of_length_le (by simp)] at h
theorem isNameByte_any (x:Int) (w:World) :
    Calls Tryz.prog 158 #[.int .u8 x] w fun e w'=>e=.returned (.bool (nbB x))/\w'=w:=by
  rcases (show (97<=x/\x<=122)\/(122 < x)\/(57 < x/\x < 97)\/(48<=x/\x<=57)\/x < 48 from by omega) with h | h | h | h | h
  all_goals
    have e:Hid (nbB x=decide ((97<=x/\x<=122)\/(48<=x/\x<=57))):=hide (by simp only [nbB,inB,Bool.or_eq_decide];simp)
    go_enter Tryz.func158,Tryz.ntmps158
    go_wp2
    go_ret
    exact ⟨ret_bool (by rw [e.out,Bool.eq_iff_iff];simp only [Bool.or_eq_true,decide_eq_true_eq,Bool.false_eq_true,true_iff,false_iff];omega),rfl⟩
theorem specNameOk_any (s:ByteArray) (w:World) (hs:s.size<=maxLen) :
    Calls Tryz.prog 121 #[.string s] w fun e w'=>e=.returned (.bool (nmB s))/\w'=w:=by
  unfold maxLen at hs
  go_enter Tryz.func121,Tryz.ntmps121
  go_wp2
  go_loop [3] (fun i=>∃ k:Nat,k<=s.size/\i=.int .i64 k/\(s.data.toList.take k).all (fun c=>nbB (c.toNat:Int))=true) (fun i=>s.size - (intOf i).toNat)
  case atStart=>exact ⟨0,Nat.zero_le _,rfl,rfl⟩
  case round =>
    obtain ⟨k,hk,rfl,hall⟩:=hrel
    by_cases hlt:k < s.size
    · have Hall:=hide hall
      clear hall
      have hb:(s[k].toNat:Int) < 256:=by have:=s[k].toNat_lt;omega
      cases h1:inB (s[k].toNat:Int) 97 122
      · cases h2:inB (s[k].toNat:Int) 48 57
        · have hf:Hid (nmB s=false):=hide (by unfold nmB;rw [all_not s k hlt _ (by simp only [nbB,h1,h2];rfl)];rfl)
          go_wp2_with (go_at_call 23;refine (l1In_any _ _ _ _).mono ?_;rintro e w' ⟨rfl,rfl⟩)
          go_ret
          rw [hf.out];exact ⟨rfl,rfl⟩
        · have hn:Hid (nbB (s[k].toNat:Int)=true):=hide (by simp [nbB,h1,h2])
          go_wp2_with (go_at_call 23;refine (l1In_any _ _ _ _).mono ?_;rintro e w' ⟨rfl,rfl⟩)
          go_round
          case rel=>exact ⟨k+1,by omega,by go_num,all_snoc s k hlt _ Hall.out hn.out⟩
          case measure=>simp [intOf];omega
      · have hn:Hid (nbB (s[k].toNat:Int)=true):=hide (by simp [nbB,h1])
        go_wp2_with (go_at_call 23;refine (l1In_any _ _ _ _).mono ?_;rintro e w' ⟨rfl,rfl⟩)
        go_round
        case rel=>exact ⟨k+1,by omega,by go_num,all_snoc s k hlt _ Hall.out hn.out⟩
        case measure=>simp [intOf];omega
    · have hf:Hid (nmB s=inB s.size 1 8):=hide (by
        have:k=s.size:=by omega
        subst this
        unfold nmB;rw [all_whole s _ hall];rfl)
      clear hall
      go_wp2_with (go_at_call 23;refine (l1In_any _ _ _ _).mono ?_;rintro e w' ⟨rfl,rfl⟩)
      go_ret
      rw [hf.out];exact ⟨rfl,rfl⟩
theorem implNameOk_any (s:ByteArray) (w:World) (hs:s.size<=maxLen) :
    Calls Tryz.prog 151 #[.string s] w fun e w'=>e=.returned (.bool (nmB s))/\w'=w:=by
  unfold maxLen at hs
  rcases (show s.size < 1\/8 < s.size\/(1<=s.size/\s.size<=8) from by omega) with h | h | h
  · have hf:Hid (nmB s=false):=hide (by unfold nmB inB;rw [decide_eq_false (by omega)];simp)
    go_enter Tryz.func151,Tryz.ntmps151
    go_wp2
    go_ret
    rw [hf.out];exact ⟨rfl,rfl⟩
  · have hf:Hid (nmB s=false):=hide (by unfold nmB inB;rw [decide_eq_false (by omega)];simp)
    have h':¬ s.size < 1:=by omega
    go_enter Tryz.func151,Tryz.ntmps151
    go_wp2
    go_ret
    rw [hf.out];exact ⟨rfl,rfl⟩
  · have hin:inB s.size 1 8=true:=by unfold inB;rw [decide_eq_true (by omega)]
    have Hin:=hide hin
    clear hin
    go_enter Tryz.func151,Tryz.ntmps151
    go_wp2
    go_loop [14] (fun i=>∃ k:Nat,k<=s.size/\i=.int .i64 k/\(s.data.toList.take k).all (fun c=>nbB (c.toNat:Int))=true) (fun i=>s.size - (intOf i).toNat)
    case atStart=>exact ⟨0,Nat.zero_le _,rfl,rfl⟩
    case round =>
      obtain ⟨k,hk,rfl,hall⟩:=hrel
      by_cases hlt:k < s.size
      · have Hall:=hide hall
        clear hall
        cases h1:nbB (s[k].toNat:Int)
        · have hf:Hid (nmB s=false):=hide (by unfold nmB;rw [all_not s k hlt _ h1];rfl)
          go_wp2_with (go_at_call 158;refine (isNameByte_any _ _).mono ?_;rintro e w' ⟨rfl,rfl⟩)
          go_ret
          rw [hf.out];exact ⟨rfl,rfl⟩
        · have hn:=hide h1
          go_wp2_with (go_at_call 158;refine (isNameByte_any _ _).mono ?_;rintro e w' ⟨rfl,rfl⟩)
          go_round
          case rel=>exact ⟨k+1,by omega,by go_num,all_snoc s k hlt _ Hall.out hn.out⟩
          case measure=>simp [intOf];omega
      · have hf:Hid (nmB s=true):=hide (by
          have:k=s.size:=by omega
          subst this
          unfold nmB;rw [all_whole s _ hall,Hin.out];rfl)
        clear hall
        go_wp2
        go_ret
        rw [hf.out];exact ⟨rfl,rfl⟩
def okAt (ls:List ByteArray) (i:Nat):Bool:=nmB (ls.getD i ByteArray.empty) && (decide (i=0) || Op.bytesLess (ls.getD (i - 1) ByteArray.empty).toList (ls.getD i ByteArray.empty).toList)
def nmsB (ls:List ByteArray):Bool:=(List.range ls.length).all (okAt ls) && decide (ls.length<=20)
end Go.Proofs.YthehfkafcdociaaGreatDoor
