/- The model's Padded. -/
import Derived.Test.YtohachldbpejpaaGreatDoorZbDrawTr
set_option maxRecDepth 20000
set_option maxHeartbeats 1000000
namespace Go.Proofs.YtohachldbpejpaaGreatDoor
open Go.RowKit
set_option linter.unusedVariables false
def padZ (n:Nat):Nat:=(119 - n % 64) % 64
def be8 (m:Nat):List UInt8:=(List.range 8).map (fun j=>UInt8.ofNat (m / 2 ^ (56 - 8 * j) % 256))
def padB (l:List UInt8):List UInt8:=l ++ 128 :: List.replicate (padZ l.length) 0 ++ be8 (8 * l.length)
theorem padZ_is (n z:Nat) (h:z<=padZ n):((n+1+z) % 64=56 ↔ z=padZ n):=by
  unfold padZ at *;omega
theorem padZ_lt (n:Nat):padZ n < 64:=by unfold padZ;omega
theorem be8_at (m j:Nat) (h:j < 8):(be8 m)[j]'(by simpa [be8] using h)=UInt8.ofNat (m / 2 ^ (56 - 8 * j) % 256):=by simp [be8]
theorem be8_len (m:Nat):(be8 m).length=8:=by simp [be8]
theorem byte_div (M d:Nat):(M:Int) / (d:Int) % 256=((UInt8.ofNat (M / d % 256)).toNat:Int):=by
  rw [UInt8.toNat_ofNat',Nat.mod_eq_of_lt (by omega)]
  simp
theorem be8_take (m j:Nat) (h:j < 8):(be8 m).take (j+1)=(be8 m).take j ++ [UInt8.ofNat (m / 2 ^ (56 - 8 * j) % 256)]:=by
  rw [List.take_succ_eq_append_getElem (by rw [be8_len];exact h),be8_at m j h]
def sliceLen (v:Value):Nat:=match v with | .slice _ n _=>n | _=>0
theorem specPadded_any (v:Value) (l:List UInt8) (w:World) (hr:RdB w v l) (hl:l.length<=4000000) :
    Calls Tryz.prog 236 #[v] w fun e w'=>∃ v',e=.returned v'/\OwnB w.heap.size w' v' (padB l)/\Below w.heap.size w w':=by
  have hb0:Below w.heap.size w (w.alloc (.cells #[] 5)):=(Below.refl _ _).alloc (Nat.le_refl _) _
  have Hr:=hide (hr.below hb0 (Nat.le_refl _))
  have Ho:=hide (own_nil w w.heap.size (Nat.le_refl _))
  have Hb:=hide hb0
  obtain ⟨av,cv,hv⟩:=hr.shape
  subst hv
  clear hr hb0
  go_enter Tryz.func236,Tryz.ntmps236
  go_wp2_with (first | (at_builtin;refine app_own _ rfl _ _ rfl w.heap.size _ _ l [128] rfl rfl (ho1.alloc _) (rd_one _ _ _ (by rfl)) (by simp;omega) (by simp;omega) ?_;intro v2 w2 ho2 hb2) | (at_builtin;refine app_own _ rfl _ _ rfl w.heap.size _ _ [] l rfl rfl Ho.out Hr.out (by simp;omega) (by simp) ?_;intro v1 w1 ho1 hb1;have hs1:=hb1.size;simp only [World.size_alloc] at hs1;rw [List.nil_append] at ho1))
  have hB2:Below w.heap.size w w2:=((Hb.out.trans hb1).alloc (by omega) _).trans hb2
  have hZ:=padZ_lt l.length
  have HZ:=hide (padZ_is l.length)
  have HP:Hid (padB l=l ++ 128 :: List.replicate (padZ l.length) 0 ++ be8 (8 * l.length)):=hide rfl
  generalize padZ l.length=Z at hZ HZ HP
  obtain ⟨g2,c2,hv2,_⟩:=ho2.shape (by simp)
  rw [hv2] at ho2 ⊢
  clear hv2 ho1 hb1 hb2
  rw [show (l ++ [(128:UInt8)]).length=l.length+1 from by simp] at ho2 ⊢
  go_loopw [3] (fun ov wr=>∃ (z g c:Nat),ov=.slice (some ⟨g,0,none⟩) (l.length+1+z) c/\OwnB w.heap.size wr ov (l ++ 128 :: List.replicate z 0)/\z<=Z/\Below w.heap.size w wr) (fun ov _=>l.length+1+Z - sliceLen ov)
  case atStart=>exact ⟨0,g2,c2,rfl,ho2,Nat.zero_le _,hB2⟩
  case round =>
    obtain ⟨z,g,c,rfl,ho,hz,hb⟩:=hrel
    have hsz:=hb.size
    have Hoz:=hide ho
    have Hbz:=hide hb
    clear ho hb ho2 hB2
    by_cases hlt:z < Z
    · have hne:¬ (l.length+1+z) % 64=56:=fun h=>by have:=(HZ.out z hz).1 h;omega
      have hq:(((l.length+1+z:Nat):Int) % 64 != 56)=true:=by rw [bne_iff_ne];omega
      have hq2:(((l.length:Int)+1+(z:Int)) % 64 != 56)=true:=by rw [bne_iff_ne];omega
      have Hnx:Hid (l ++ 128 :: List.replicate z 0 ++ [0]=l ++ 128 :: List.replicate (z+1) 0):=hide (by
        rw [List.append_assoc,List.cons_append,<- List.replicate_succ'])
      clear hne
      go_wp2_with (at_builtin;refine app_own _ rfl _ _ rfl w.heap.size _ _ (l ++ 128 :: List.replicate z 0) [0] rfl rfl (Hoz.out.alloc _) (rd_one _ _ _ (by rfl)) (by simp;omega) (by simp;omega) ?_;intro v3 w3 ho3 hb3)
      rw [Hnx.out] at ho3
      obtain ⟨g3,c3,hv3,_⟩:=ho3.shape (by simp)
      rw [hv3] at ho3 ⊢
      have e3:(l ++ 128 :: List.replicate (z+1) (0:UInt8)).length=l.length+1+(z+1):=by simp;omega
      rw [e3] at ho3 ⊢
      clear hv3
      go_roundw
      case rel=>exact ⟨z+1,g3,c3,rfl,ho3,by omega,(Hbz.out.alloc hsz _).trans hb3⟩
      case measure=>simp [sliceLen];omega
    · have hzZ:z=Z:=by omega
      subst hzZ
      have he:=(HZ.out z hz).2 rfl
      have hq:(((l.length+1+z:Nat):Int) % 64 != 56)=false:=by rw [bne_eq_false_iff_eq];omega
      have hq2:(((l.length:Int)+1+(z:Int)) % 64 != 56)=false:=by rw [bne_eq_false_iff_eq];omega
      clear he hlt
      generalize hA:l ++ 128 :: List.replicate z (0:UInt8)=A at Hoz HP
      have hAl:A.length<=4000100:=by rw [<- hA];simp;omega
      clear hA
      go_wp2
      have hMe:(l.length:Int) * 8=((8 * l.length:Nat):Int):=by omega
      have hM:8 * l.length<=32000000:=by omega
      rw [hMe]
      clear hMe
      generalize 8 * l.length=M at hM HP
      go_loopw [3,5] (fun ov kv wr2=>∃ j:Nat,j<=8/\kv=.int .i64 (56 - 8 * (j:Int))/\OwnB w.heap.size wr2 ov (A ++ (be8 M).take j)/\Below w.heap.size w wr2) (fun _ kv _=>(intOf kv+8).toNat)
      case atStart=>exact ⟨0,by omega,rfl,by simpa using Hoz.out,Hbz.out⟩
      case round =>
        obtain ⟨j,hj,rfl,ho,hb⟩:=hrel
        have hs2:=hb.size
        have Ho2:=hide ho
        have Hb2:=hide hb
        clear ho hb
        by_cases hj8:j < 8
        · have Htk:=hide (be8_take M j hj8)
          have hTl:((be8 M).take j).length<=8:=by simp [be8_len];omega
          have Hbd:=hide (byte_div M (2 ^ (56 - 8 * j)))
          generalize UInt8.ofNat (M / 2 ^ (56 - 8 * j) % 256)=C at Htk Hbd
          generalize hT:(be8 M).take j=T at Ho2 Htk hTl
          have HT:=hide hT
          clear hT
          rcases (show j=0\/j=1\/j=2\/j=3\/j=4\/j=5\/j=6\/j=7 from by omega) with rfl | rfl | rfl | rfl | rfl | rfl | rfl | rfl
          · have hbd:=Hbd.out
            simp at hbd
            have Hbd2:=hide hbd
            clear hbd Hbd
            go_wp2_with (at_builtin;refine app_own _ rfl _ _ rfl w.heap.size _ _ (A ++ T) [C] rfl rfl (Ho2.out.alloc _) (rd_one _ _ _ (by have h:=Hbd2.out;omega)) (by simp;omega) (by simp;omega) ?_;intro v3 w3 ho3 hb3)
            go_roundw
            case rel=>exact ⟨0+1,by omega,by go_num,by rw [Htk.out,<- List.append_assoc];exact ho3,(Hb2.out.alloc hs2 _).trans hb3⟩
            case measure=>simp [intOf]
          · have hbd:=Hbd.out
            simp at hbd
            have Hbd2:=hide hbd
            clear hbd Hbd
            go_wp2_with (at_builtin;refine app_own _ rfl _ _ rfl w.heap.size _ _ (A ++ T) [C] rfl rfl (Ho2.out.alloc _) (rd_one _ _ _ (by have h:=Hbd2.out;omega)) (by simp;omega) (by simp;omega) ?_;intro v3 w3 ho3 hb3)
            go_roundw
            case rel=>exact ⟨1+1,by omega,by go_num,by rw [Htk.out,<- List.append_assoc];exact ho3,(Hb2.out.alloc hs2 _).trans hb3⟩
            case measure=>simp [intOf]
          · have hbd:=Hbd.out
            simp at hbd
            have Hbd2:=hide hbd
            clear hbd Hbd
            go_wp2_with (at_builtin;refine app_own _ rfl _ _ rfl w.heap.size _ _ (A ++ T) [C] rfl rfl (Ho2.out.alloc _) (rd_one _ _ _ (by have h:=Hbd2.out;omega)) (by simp;omega) (by simp;omega) ?_;intro v3 w3 ho3 hb3)
            go_roundw
            case rel=>exact ⟨2+1,by omega,by go_num,by rw [Htk.out,<- List.append_assoc];exact ho3,(Hb2.out.alloc hs2 _).trans hb3⟩
            case measure=>simp [intOf]
          · have hbd:=Hbd.out
            simp at hbd
            have Hbd2:=hide hbd
            clear hbd Hbd
            go_wp2_with (at_builtin;refine app_own _ rfl _ _ rfl w.heap.size _ _ (A ++ T) [C] rfl rfl (Ho2.out.alloc _) (rd_one _ _ _ (by have h:=Hbd2.out;omega)) (by simp;omega) (by simp;omega) ?_;intro v3 w3 ho3 hb3)
            go_roundw
            case rel=>exact ⟨3+1,by omega,by go_num,by rw [Htk.out,<- List.append_assoc];exact ho3,(Hb2.out.alloc hs2 _).trans hb3⟩
            case measure=>simp [intOf]
          · have hbd:=Hbd.out
            simp at hbd
            have Hbd2:=hide hbd
            clear hbd Hbd
            go_wp2_with (at_builtin;refine app_own _ rfl _ _ rfl w.heap.size _ _ (A ++ T) [C] rfl rfl (Ho2.out.alloc _) (rd_one _ _ _ (by have h:=Hbd2.out;omega)) (by simp;omega) (by simp;omega) ?_;intro v3 w3 ho3 hb3)
            go_roundw
            case rel=>exact ⟨4+1,by omega,by go_num,by rw [Htk.out,<- List.append_assoc];exact ho3,(Hb2.out.alloc hs2 _).trans hb3⟩
            case measure=>simp [intOf]
          · have hbd:=Hbd.out
            simp at hbd
            have Hbd2:=hide hbd
            clear hbd Hbd
            go_wp2_with (at_builtin;refine app_own _ rfl _ _ rfl w.heap.size _ _ (A ++ T) [C] rfl rfl (Ho2.out.alloc _) (rd_one _ _ _ (by have h:=Hbd2.out;omega)) (by simp;omega) (by simp;omega) ?_;intro v3 w3 ho3 hb3)
            go_roundw
            case rel=>exact ⟨5+1,by omega,by go_num,by rw [Htk.out,<- List.append_assoc];exact ho3,(Hb2.out.alloc hs2 _).trans hb3⟩
            case measure=>simp [intOf]
          · have hbd:=Hbd.out
            simp at hbd
            have Hbd2:=hide hbd
            clear hbd Hbd
            go_wp2_with (at_builtin;refine app_own _ rfl _ _ rfl w.heap.size _ _ (A ++ T) [C] rfl rfl (Ho2.out.alloc _) (rd_one _ _ _ (by have h:=Hbd2.out;omega)) (by simp;omega) (by simp;omega) ?_;intro v3 w3 ho3 hb3)
            go_roundw
            case rel=>exact ⟨6+1,by omega,by go_num,by rw [Htk.out,<- List.append_assoc];exact ho3,(Hb2.out.alloc hs2 _).trans hb3⟩
            case measure=>simp [intOf]
          · have hbd:=Hbd.out
            simp at hbd
            have Hbd2:=hide hbd
            clear hbd Hbd
            go_wp2_with (at_builtin;refine app_own _ rfl _ _ rfl w.heap.size _ _ (A ++ T) [C] rfl rfl (Ho2.out.alloc _) (rd_one _ _ _ (by have h:=Hbd2.out;omega)) (by simp;omega) (by simp;omega) ?_;intro v3 w3 ho3 hb3)
            go_roundw
            case rel=>exact ⟨7+1,by omega,by go_num,by rw [Htk.out,<- List.append_assoc];exact ho3,(Hb2.out.alloc hs2 _).trans hb3⟩
            case measure=>simp [intOf]
        · have e8:(be8 M).take j=be8 M:=List.take_of_length_le (by rw [be8_len];omega)
          have hj9:j=8:=by omega
          have ho8:=Ho2.out
          rw [e8,<- HP.out] at ho8
          have Ho8:=hide ho8
          clear ho8 e8
          subst hj9
          go_wp2
          go_ret
          exact ⟨_,rfl,Ho8.out,Hb2.out⟩
end Go.Proofs.YtohachldbpejpaaGreatDoor
