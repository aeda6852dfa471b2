/- The 64 words of a block. -/
import Derived.Test.YtohachldbpejpaaGreatDoorZlIntKeep
set_option maxRecDepth 20000
set_option maxHeartbeats 1000000
namespace Go.Proofs.YtohachldbpejpaaGreatDoor
open Go.RowKit
set_option linter.unusedVariables false
def allW (b:List Nat) (n:Nat):List Nat:=(List.range n).map (W b)
theorem allW_len (b:List Nat) (n:Nat):(allW b n).length=n:=by simp [allW]
theorem allW_at (b:List Nat) (n i:Nat) (h:i < (allW b n).length):(allW b n)[i]=W b i:=by simp [allW]
theorem allW_snoc (b:List Nat) (n:Nat):allW b (n+1)=allW b n ++ [W b n]:=by simp [allW,List.range_succ]
theorem wAt_four (l:List UInt8) (hl:l.length=64) (j:Nat) (h:j < 16):wAt l 64 j=(((l[4 * j]'(by omega)).toNat * 256+(l[4 * j+1]'(by omega)).toNat) * 256+(l[4 * j+2]'(by omega)).toNat) * 256+(l[4 * j+3]'(by omega)).toNat:=by
  unfold wAt
  have e:l.take 64=l:=List.take_of_length_le (by omega)
  have e2:(l.drop (4 * j)).take 4=[l[4 * j]'(by omega),l[4 * j+1]'(by omega),l[4 * j+2]'(by omega),l[4 * j+3]'(by omega)]:=by
    rw [List.drop_eq_getElem_cons (i:=4 * j) (by omega),List.drop_eq_getElem_cons (i:=4 * j+1) (by omega),List.drop_eq_getElem_cons (i:=4 * j+1+1) (by omega),List.drop_eq_getElem_cons (i:=4 * j+1+1+1) (by omega)]
    simp only [List.take_succ_cons,List.take_zero]
  rw [e,e2]
  simp only [beN,List.foldl_cons,List.foldl_nil]
  omega
theorem word4 (x0 x1 x2 x3:Nat) (b0:x0 < 256) (b1:x1 < 256) (b2:x2 < 256) (b3:x3 < 256) :
    bits .or .i64 (bits .or .i64 (bits .or .i64 (IntKind.i64.wrap (IntKind.i64.wrap (x0:Int) * 16777216)) (IntKind.i64.wrap (IntKind.i64.wrap (x1:Int) * 65536))) (IntKind.i64.wrap (IntKind.i64.wrap (x2:Int) * 256))) (IntKind.i64.wrap (x3:Int))=((((x0 * 256+x1) * 256+x2) * 256+x3:Nat):Int):=by
  have w0:∀ x:Nat,x < 256->IntKind.i64.wrap (x:Int)=(x:Int):=by intro x hx;rw [IntKind.wrap_i64];omega
  rw [w0 x0 b0,w0 x1 b1,w0 x2 b2,w0 x3 b3]
  rw [show IntKind.i64.wrap ((x0:Int) * 16777216)=((x0 * 2 ^ 24:Nat):Int) from by rw [IntKind.wrap_i64];omega,show IntKind.i64.wrap ((x1:Int) * 65536)=((x1 * 2 ^ 16:Nat):Int) from by rw [IntKind.wrap_i64];omega,show IntKind.i64.wrap ((x2:Int) * 256)=((x2 * 2 ^ 8:Nat):Int) from by rw [IntKind.wrap_i64];omega]
  rw [i64_or_nat _ _ (by omega) (by omega),Nat.or_comm,or_high (x1 * 2 ^ 16) x0 24 (by omega),i64_or_nat _ _ (by omega) (by omega),Nat.or_comm]
  rw [show x1 * 2 ^ 16+x0 * 2 ^ 24=(x1+x0 * 256) * 2 ^ 16 from by omega,or_high (x2 * 2 ^ 8) (x1+x0 * 256) 16 (by omega),i64_or_nat _ _ (by omega) (by omega),Nat.or_comm]
  rw [show x2 * 2 ^ 8+(x1+x0 * 256) * 2 ^ 16=(x2+(x1+x0 * 256) * 256) * 2 ^ 8 from by omega,or_high x3 _ 8 (by omega)]
  congr 1
  omega
theorem wrapN (n:Nat) (h:n < 9223372036854775808):IntKind.i64.wrap (n:Int)=(n:Int):=by rw [IntKind.wrap_i64];omega
theorem sum4 (x16 s0 x7 s1:Nat) (h1:x16 < 4294967296) (h2:s0 < 4294967296) (h3:x7 < 4294967296) (h4:s1 < 4294967296) :
    bits .and .i64 (IntKind.i64.wrap (IntKind.i64.wrap (IntKind.i64.wrap ((x16:Int)+(s0:Int))+(x7:Int))+(s1:Int))) 4294967295=(((x16+(x7+s0+s1)) % 4294967296:Nat):Int):=by
  rw [<- Int.natCast_add,wrapN _ (by omega),<- Int.natCast_add,wrapN _ (by omega),<- Int.natCast_add,wrapN _ (by omega),i64_mask _ (by omega)]
  congr 2
  omega
theorem specWords_any (b off cap:Nat) (l:List UInt8) (w:World) (hl:l.length=64) (hcap:64<=cap) (hcm:cap<=maxLen) (hb:b < w.heap.size) (h4:∀ i (h:i < l.length),w.cell? ⟨b,off+i,none⟩=some (.int .u8 (l[i].toNat:Int))) :
    Calls Tryz.prog 242 #[.slice (some ⟨b,off,none⟩) 64 cap] w fun e w'=>∃ v',e=.returned v'/\OwnN w.heap.size w' v' (allW (wordsB l) 64)/\Below w.heap.size w w':=by
  have H4:=hide h4
  have hb0:Below w.heap.size w (w.alloc (.cells #[] 3)):=(Below.refl _ _).alloc (Nat.le_refl _) _
  have Ho:=hide (own_nilN w w.heap.size (Nat.le_refl _))
  have Hb:=hide hb0
  clear h4 hb0
  go_enter Tryz.func242,Tryz.ntmps242
  go_wp2
  go_loopw [3,4] (fun ov iv' wr=>∃ i:Nat,i<=16/\iv'=.int .i64 (i:Int)/\OwnN w.heap.size wr ov (allW (wordsB l) i)/\Below w.heap.size w wr) (fun _ iv' _=>16 - (intOf iv').toNat)
  case atStart=>exact ⟨0,by omega,rfl,Ho.out,Hb.out⟩
  case round =>
    clear Ho Hb
    obtain ⟨i,hi,rfl,ho,hbw⟩:=hrel
    by_cases hi16:i < 16
    · have c0:=(hbw.cell (p:=⟨b,off+4 * i,none⟩) hb).trans (H4.out (4 * i) (by omega))
      have c1:=(hbw.cell (p:=⟨b,off+(4 * i+1),none⟩) hb).trans (H4.out (4 * i+1) (by omega))
      have c2:=(hbw.cell (p:=⟨b,off+(4 * i+2),none⟩) hb).trans (H4.out (4 * i+2) (by omega))
      have c3:=(hbw.cell (p:=⟨b,off+(4 * i+3),none⟩) hb).trans (H4.out (4 * i+3) (by omega))
      have hw4:=wAt_four l hl i hi16
      have hsn:=allW_snoc (wordsB l) i
      rw [W_first _ _ hi16,List.getD_eq_getElem?_getD,List.getElem?_eq_getElem (by rw [wordsB_len];exact hi16),Option.getD_some,show (wordsB l)[i]'(by rw [wordsB_len];exact hi16)=wAt l 64 i from wds_at l 64 i _,hw4] at hsn
      have b0:(l[4 * i]'(by omega)).toNat < 256:=UInt8.toNat_lt _
      have b1:(l[4 * i+1]'(by omega)).toNat < 256:=UInt8.toNat_lt _
      have b2:(l[4 * i+2]'(by omega)).toNat < 256:=UInt8.toNat_lt _
      have b3:(l[4 * i+3]'(by omega)).toNat < 256:=UInt8.toNat_lt _
      generalize (l[4 * i]'(by omega)).toNat=x0 at c0 b0 hsn
      generalize (l[4 * i+1]'(by omega)).toNat=x1 at c1 b1 hsn
      generalize (l[4 * i+2]'(by omega)).toNat=x2 at c2 b2 hsn
      generalize (l[4 * i+3]'(by omega)).toNat=x3 at c3 b3 hsn
      clear hw4
      have hword:=word4 x0 x1 x2 x3 b0 b1 b2 b3
      obtain ⟨Y,hY⟩:∃ Y,((x0 * 256+x1) * 256+x2) * 256+x3=Y:=⟨_,rfl⟩
      rw [hY] at hword hsn
      clear hY
      have Hsn:=hide hsn
      have Ho:=hide ho
      have Hbw:=hide hbw
      have hsz:=hbw.size
      obtain ⟨j0,hj0⟩:∃ j,4 * i=j:=⟨_,rfl⟩
      obtain ⟨j1,hj1⟩:∃ j,4 * i+1=j:=⟨_,rfl⟩
      obtain ⟨j2,hj2⟩:∃ j,4 * i+2=j:=⟨_,rfl⟩
      obtain ⟨j3,hj3⟩:∃ j,4 * i+3=j:=⟨_,rfl⟩
      rw [hj0] at c0
      rw [hj1] at c1
      rw [hj2] at c2
      rw [hj3] at c3
      have e0:IntKind.i64.wrap (4 * (i:Int))=(j0:Int):=by rw [IntKind.wrap_i64];omega
      have e1:IntKind.i64.wrap ((j0:Int)+1)=(j1:Int):=by rw [IntKind.wrap_i64];omega
      have e2:IntKind.i64.wrap ((j0:Int)+2)=(j2:Int):=by rw [IntKind.wrap_i64];omega
      have e3:IntKind.i64.wrap ((j0:Int)+3)=(j3:Int):=by rw [IntKind.wrap_i64];omega
      have l0:(j0:Int) < 64:=by omega
      have l1:(j1:Int) < 64:=by omega
      have l2:(j2:Int) < 64:=by omega
      have l3:(j3:Int) < 64:=by omega
      have hTl:(allW (wordsB l) i).length<=64:=by rw [allW_len];omega
      generalize hT:allW (wordsB l) i=T at Ho Hsn hTl
      clear hsn ho hbw hj0 hj1 hj2 hj3 hT
      go_wp2
      go_region_held_law (fun w'=>w'.cell? ⟨b,off+j0,none⟩=some (.int .u8 (x0:Int))/\w'.cell? ⟨b,off+j1,none⟩=some (.int .u8 (x1:Int))/\w'.cell? ⟨b,off+j2,none⟩=some (.int .u8 (x2:Int))/\w'.cell? ⟨b,off+j3,none⟩=some (.int .u8 (x3:Int))) (go_keep)
        ((refine step_app_ownN rfl _ _ rfl w.heap.size wr.heap.size 1 1 u3 T [Y] (by rfl) (by rfl) rfl (Ho.out.alloc _).drew (An.new wr _ [Y] _ _ rfl rfl).drew (by simp;omega) (by simp;omega) ?_;intro v3 w3 ho3 hb3;have hbB:Below w.heap.size wr w3:=(((Below.refl _ wr).alloc hsz _).drew).trans hb3;have k0:=(hbB.cell (p:=⟨b,off+j0,none⟩) hb).trans c0;have k1:=(hbB.cell (p:=⟨b,off+j1,none⟩) hb).trans c1;have k2:=(hbB.cell (p:=⟨b,off+j2,none⟩) hb).trans c2;have k3:=(hbB.cell (p:=⟨b,off+j3,none⟩) hb).trans c3))
      go_wp2
      go_roundw
      case rel=>exact ⟨i+1,by omega,by go_num,by rw [Hsn.out];exact ho3,Hbw.out.trans hbB⟩
      case measure=>simp [intOf];omega
    · have e16:i=16:=by omega
      rw [e16] at ho
      have Ho:=hide ho
      have Hbw:=hide hbw
      clear ho hbw hi e16
      go_wp2
      go_loopw [3,5] (fun ov iv' wr=>∃ i:Nat,16<=i/\i<=64/\iv'=.int .i64 (i:Int)/\OwnN w.heap.size wr ov (allW (wordsB l) i)/\Below w.heap.size w wr) (fun _ iv' _=>64 - (intOf iv').toNat)
      case atStart=>exact ⟨16,by omega,by omega,rfl,Ho.out,Hbw.out⟩
      case round =>
        clear Ho Hbw
        rename_i wrOld
        obtain ⟨i,h16,hi,rfl,ho,hbw⟩:=hrel
        by_cases hi64:i < 64
        · have hli:(i:Int) < 64:=by omega
          obtain ⟨g,cp,rfl,hcp1,hcp2,hbg,han,hfz⟩:=ho.open (by intro e;have:=allW_len (wordsB l) i;rw [e] at this;simp at this;omega)
          have hWl:=W_lt (wordsB l) (wordsB_lt l)
          have c15:=han.2 (i - 15) (by rw [allW_len];omega)
          have c2:=han.2 (i - 2) (by rw [allW_len];omega)
          have c16:=han.2 (i - 16) (by rw [allW_len];omega)
          have c7:=han.2 (i - 7) (by rw [allW_len];omega)
          rw [allW_at] at c15 c2 c16 c7
          have hsn:=allW_snoc (wordsB l) i
          rw [W_next _ _ h16] at hsn
          have b15:=hWl (i - 15)
          have b2:=hWl (i - 2)
          have b16:=hWl (i - 16)
          have b7:=hWl (i - 7)
          generalize W (wordsB l) (i - 15)=x15 at c15 b15 hsn
          generalize W (wordsB l) (i - 2)=x2 at c2 b2 hsn
          generalize W (wordsB l) (i - 16)=x16 at c16 b16 hsn
          generalize W (wordsB l) (i - 7)=x7 at c7 b7 hsn
          have hs0:bits .xor .i64 (bits .xor .i64 (rotr 7 x15:Int) (rotr 18 x15:Int)) ((x15:Int) / 8)=((bS0 x15:Nat):Int):=by
            rw [show (x15:Int) / 8=((x15 / 8:Nat):Int) from by omega]
            exact i64_xor3 _ _ _ (rotr_lt _ _) (rotr_lt _ _) (by omega)
          have hs1:bits .xor .i64 (bits .xor .i64 (rotr 17 x2:Int) (rotr 19 x2:Int)) ((x2:Int) / 1024)=((bS1 x2:Nat):Int):=by
            rw [show (x2:Int) / 1024=((x2 / 1024:Nat):Int) from by omega]
            exact i64_xor3 _ _ _ (rotr_lt _ _) (rotr_lt _ _) (by omega)
          have q0:=bS0_lt x15 b15
          have q1:=bS1_lt x2 b2
          obtain ⟨s0,hh0⟩:∃ s,bS0 x15=s:=⟨_,rfl⟩
          obtain ⟨s1,hh1⟩:∃ s,bS1 x2=s:=⟨_,rfl⟩
          rw [hh0] at hs0 hsn q0
          rw [hh1] at hs1 hsn q1
          have hsum:bits .and .i64 (IntKind.i64.wrap (IntKind.i64.wrap (IntKind.i64.wrap ((x16:Int)+(s0:Int))+(x7:Int))+(s1:Int))) 4294967295=(((x16+(x7+s0+s1)) % 4294967296:Nat):Int):=by
            exact sum4 x16 s0 x7 s1 b16 q0 b7 q1
          obtain ⟨Y,hY⟩:∃ Y,(x16+(x7+s0+s1)) % 4294967296=Y:=⟨_,rfl⟩
          rw [hY] at hsum hsn
          obtain ⟨j15,hj15⟩:∃ j,i - 15=j:=⟨_,rfl⟩
          obtain ⟨j2,hj2⟩:∃ j,i - 2=j:=⟨_,rfl⟩
          obtain ⟨j16,hj16⟩:∃ j,i - 16=j:=⟨_,rfl⟩
          obtain ⟨j7,hj7⟩:∃ j,i - 7=j:=⟨_,rfl⟩
          rw [hj15] at c15
          rw [hj2] at c2
          rw [hj16] at c16
          rw [hj7] at c7
          have e15:(i:Int) - 15=(j15:Int):=by omega
          have e2:(i:Int) - 2=(j2:Int):=by omega
          have e16:(i:Int) - 16=(j16:Int):=by omega
          have e7:(i:Int) - 7=(j7:Int):=by omega
          have f16:IntKind.i64.wrap (j16:Int)=(j16:Int):=by rw [IntKind.wrap_i64];omega
          have f7:IntKind.i64.wrap (j7:Int)=(j7:Int):=by rw [IntKind.wrap_i64];omega
          have l15:(j15:Int) < (i:Int):=by omega
          have l2:(j2:Int) < (i:Int):=by omega
          have l16:(j16:Int) < (i:Int):=by omega
          have l7:(j7:Int) < (i:Int):=by omega
          have hTl:(allW (wordsB l) i).length=i:=allW_len _ _
          rw [hTl] at ho ⊢
          have Hsn:=hide hsn
          have Ho:=hide ho
          have Hbw:=hide hbw
          have hsz:=hbw.size
          have Han:=hide han
          generalize hT:allW (wordsB l) i=T at Ho Hsn hTl Han
          have HTl:=hide hTl
          clear hsn ho hbw hj15 hj2 hj16 hj7 hT hh0 hh1 hY han hfz hWl hTl
          go_wp2_with fail
          refine (l2Turn_7 x15 b15 _).mono ?_
          rintro e wa ⟨rfl,rfl⟩
          go_wp2_with fail
          refine (l2Turn_18 x15 b15 _).mono ?_
          rintro e wa ⟨rfl,rfl⟩
          go_wp2_with fail
          refine (l2Turn_17 x2 b2 _).mono ?_
          rintro e wa ⟨rfl,rfl⟩
          go_wp2_with fail
          refine (l2Turn_19 x2 b2 _).mono ?_
          rintro e wa ⟨rfl,rfl⟩
          go_wp2
          go_region_held_law (fun w'=>w'.cell? ⟨g,j16,none⟩=some (.int .i64 (x16:Int))/\w'.cell? ⟨g,j7,none⟩=some (.int .i64 (x7:Int))) (go_keep)
            ((refine step_app_keepN rfl _ _ rfl w.heap.size g i cp wa.heap.size 1 1 T [Y] (by rfl) HTl.out (by rfl) rfl (Ho.out.alloc _).drew (An.new wa _ [Y] _ _ rfl rfl).drew (by have:=HTl.out;simp;omega) (by simp;omega) ?_;intro v3 w3 ho3 hb3 han3;have hbB:Below w.heap.size wa w3:=(((Below.refl _ wa).alloc hsz _).drew).trans hb3;have k16:=(han3.2 j16 (by have:=HTl.out;omega)).trans ((Han.out.2 j16 (by have:=HTl.out;omega)).symm.trans c16);have k7:=(han3.2 j7 (by have:=HTl.out;omega)).trans ((Han.out.2 j7 (by have:=HTl.out;omega)).symm.trans c7)))
          go_wp2
          go_roundw
          case rel=>exact ⟨i+1,by omega,by omega,by go_num,by rw [Hsn.out];exact ho3,Hbw.out.trans hbB⟩
          case measure=>simp [intOf];omega
        · have e64:i=64:=by omega
          rw [e64] at ho
          have Ho:=hide ho
          have Hbw:=hide hbw
          clear ho hbw hi e64
          go_wp2
          go_ret
          exact ⟨_,rfl,Ho.out,Hbw.out⟩
end Go.Proofs.YtohachldbpejpaaGreatDoor
