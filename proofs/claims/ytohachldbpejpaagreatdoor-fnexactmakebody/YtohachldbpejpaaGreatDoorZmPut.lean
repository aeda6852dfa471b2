/- PutNum. -/
import Derived.Test.YtohachldbpejpaaGreatDoorZmPutPure
set_option maxRecDepth 20000
set_option maxHeartbeats 2000000
namespace Go.Proofs.YtohachldbpejpaaGreatDoor
open Go.RowKit
set_option linter.unusedVariables false
theorem foldN_hi (n:Int) (h:1000000000 < n):foldN n=2000000000:=by unfold foldN;rw [if_neg (by omega)];omega
theorem foldN_lo (n:Int) (h:n < -1000000000):foldN n=1999999999:=by unfold foldN;rw [if_pos (by omega)];omega
theorem foldN_pos (n:Int) (h:0<=n) (h':n<=1000000000):(foldN n:Int)=2 * n:=by unfold foldN;rw [if_neg (by omega)];omega
theorem foldN_neg (n:Int) (h:n < 0) (h':-1000000000<=n):(foldN n:Int)=-2 * n - 1:=by unfold foldN;rw [if_pos (by omega)];omega
theorem num_cases (n:Int):1000000000 < n\/n < -1000000000\/(0<=n/\n<=1000000000)\/(n < 0/\-1000000000<=n):=by omega
theorem fold_any (n:Int) (w:World) (h1:-9223372036854775808<=n) (h2:n<=9223372036854775807) :
    Calls Tryz.prog 208 #[.int .i64 n] w fun e w'=>e=.returned (.int .i64 (foldN n))/\w'=w:=by
  rcases num_cases n with h | h | ⟨h,h'⟩ | ⟨h,h'⟩
  · have hf:=hide (foldN_hi n h)
    go_enter Tryz.func208,Tryz.ntmps208
    go_wp2
    go_ret
    exact ⟨ret_int (by rw [hf.out];first | rfl | omega),rfl⟩
  · have hf:=hide (foldN_lo n h)
    go_enter Tryz.func208,Tryz.ntmps208
    go_wp2
    go_ret
    exact ⟨ret_int (by rw [hf.out];first | rfl | omega),rfl⟩
  · have hf:=hide (foldN_pos n h h')
    go_enter Tryz.func208,Tryz.ntmps208
    go_wp2
    go_ret
    exact ⟨ret_int (by rw [hf.out] <;> omega),rfl⟩
  · have hf:=hide (foldN_neg n h h')
    go_enter Tryz.func208,Tryz.ntmps208
    go_wp2
    go_ret
    exact ⟨ret_int (by rw [hf.out] <;> omega),rfl⟩
theorem copied_any (v:Value) (l:List UInt8) (w:World) (hr:RdB w v l) (hl:l.length<=50000000) :
    Calls Tryz.prog 170 #[v] w fun e w'=>∃ v',e=.returned v'/\OwnB w.heap.size w' v' l/\Below w.heap.size w w':=by
  have hb0:Below w.heap.size w (w.alloc (.cells #[] 5)):=(Below.refl _ _).alloc (Nat.le_refl _) _
  have Hr:=hide (hr.below hb0 (Nat.le_refl _))
  have Ho:=hide (own_nil w w.heap.size (Nat.le_refl _))
  have Hb:=hide hb0
  clear hr hb0
  go_enter Tryz.func170,Tryz.ntmps170
  go_wp2_with (at_builtin;refine app_own _ rfl _ _ rfl w.heap.size _ _ [] l rfl rfl Ho.out Hr.out (by simp;omega) (by simp) ?_;intro v' w1 ho1 hb1)
  go_ret
  exact ⟨_,rfl,ho1,Hb.out.trans hb1⟩
theorem appendNum_any (v:Value) (l:List UInt8) (n:Int) (base:Nat) (w:World) (ho:OwnB base w v l) (hbase:base<=w.heap.size) (hl:l.length<=50000000) (h1:-9223372036854775808<=n) (h2:n<=9223372036854775807) :
    Calls Tryz.prog 171 #[v,.int .i64 n] w fun e w'=>∃ v',e=.returned v'/\OwnB base w' v' (l ++ numB n)/\Below base w w':=by
  have Hf:=hide (fold_any n w h1 h2)
  have hM2:=foldN_le n
  have HN:Hid (numB n=putG 5 (foldN n)):=hide rfl
  generalize foldN n=M at Hf hM2 HN
  have Ho:=hide ho
  clear ho
  go_enter Tryz.func171,Tryz.ntmps171
  go_wp2_with (go_at_call 208;refine Hf.out.mono ?_;rintro e w' ⟨rfl,rfl⟩)
  go_loopw [0,5] (fun bv lv wr=>∃ (m f:Nat) (pre:List UInt8),lv=.int .i64 (m:Int)/\OwnB base wr bv (l ++ pre)/\Below base w' wr/\pre ++ putG f m=putG 5 M/\m < 128 ^ (f+1)/\pre.length+f=5/\m<=2000000000)
    (fun _ lv _=>(intOf lv).toNat)
  case atStart=>exact ⟨M,5,[],rfl,by simpa using Ho.out,Below.refl _ _,rfl,fold_pow M hM2,rfl,hM2⟩
  case round =>
    obtain ⟨m,f,pre,rfl,hown,hbel,hpre,hmf,hpf,hm2⟩:=hrel
    have hsz:base<=wr.heap.size:=by have:=hbel.size;omega
    have Hown:=hide hown
    have Hbel:=hide hbel
    have Hpre:=hide hpre
    have Hmf:=hide hmf
    have hpl:pre.length<=5:=by omega
    have Hpf:=hide hpf
    clear hown hbel hpre hmf hpf
    by_cases hm:m<=127
    · have Hend:Hid (l ++ pre ++ [UInt8.ofNat m]=l ++ numB n):=hide (by
        rw [HN.out,<- Hpre.out,putG_last f m hm,List.append_assoc])
      go_wp2_with (at_builtin;refine app_own _ rfl _ _ rfl base _ _ (l ++ pre) [UInt8.ofNat m] rfl rfl (Hown.out.alloc _) (rd_one _ _ _ (by have:=byte_of m (by omega);omega)) (by simp;omega) (by simp;omega) ?_;intro v' w1 ho1 hb1)
      go_ret
      rw [Hend.out] at ho1
      exact ⟨_,rfl,ho1,(Hbel.out.alloc hsz _).trans hb1⟩
    · obtain ⟨f',hf'⟩:∃ f',f=f'+1:=by
        cases f with
        | zero=>have:=Hmf.out;simp at this;omega
        | succ f'=>exact ⟨f',rfl⟩
      subst hf'
      have Hnext:Hid ((pre ++ [UInt8.ofNat (m % 128+128)]) ++ putG f' (m / 128)=putG 5 M):=hide (by
        rw [<- Hpre.out,putG_more f' m hm];simp)
      have Hdiv:=hide (div_lt_pow m f' Hmf.out)
      go_wp2_with (at_builtin;refine app_own _ rfl _ _ rfl base _ _ (l ++ pre) [UInt8.ofNat (m % 128+128)] rfl rfl (Hown.out.alloc _) (rd_one _ _ _ (by have:=byte_of (m % 128+128) (by omega);omega)) (by simp;omega) (by simp;omega) ?_;intro v' w1 ho1 hb1)
      go_roundw
      case rel=>exact ⟨m / 128,f',pre ++ [UInt8.ofNat (m % 128+128)],by go_num,by rw [<- List.append_assoc];exact ho1,(Hbel.out.alloc hsz _).trans hb1,Hnext.out,Hdiv.out,by have:=Hpf.out;simp;omega,by omega⟩
      case measure=>simp [intOf];omega
theorem specPutNum_any (v:Value) (l:List UInt8) (n:Int) (w:World) (hr:RdB w v l) (hl:l.length<=40000000) (h1:-9223372036854775808<=n) (h2:n<=9223372036854775807) :
    Calls Tryz.prog 196 #[v,.int .i64 n] w fun e w'=>∃ v',e=.returned v'/\OwnB w.heap.size w' v' (l ++ numB n)/\Below w.heap.size w w':=by
  have hb0:Below w.heap.size w (w.alloc (.cells #[] 5)):=(Below.refl _ _).alloc (Nat.le_refl _) _
  have Hr:=hide (hr.below hb0 (Nat.le_refl _))
  have Ho:=hide (own_nil w w.heap.size (Nat.le_refl _))
  have Hb:=hide hb0
  clear hr hb0
  have hM2:=foldN_le n
  have HN:Hid (numB n=putG 5 (foldN n)):=hide rfl
  obtain ⟨M,hMe⟩:∃ M,foldN n=M:=⟨_,rfl⟩
  rw [hMe] at hM2 HN
  have hstart:Hid ((1000000000 < n->M=2000000000)/\(n < -1000000000->M=1999999999)/\(0<=n->n<=1000000000->(M:Int)=2 * n)/\(n < 0->-1000000000<=n->(M:Int)=-2 * n - 1)):=hide (by
    rw [<- hMe];exact ⟨foldN_hi n,foldN_lo n,foldN_pos n,foldN_neg n⟩)
  clear hMe
  rcases num_cases n with h | h | ⟨h,h'⟩ | ⟨h,h'⟩
  all_goals
    go_enter Tryz.func196,Tryz.ntmps196
    go_wp2_with (at_builtin;refine app_own _ rfl _ _ rfl w.heap.size _ _ [] l rfl rfl Ho.out Hr.out (by simp;omega) (by simp) ?_;intro v1 w1 ho1 hb1)
    have hb1':Below w.heap.size w w1:=Hb.out.trans hb1
    clear hb1
    rw [List.nil_append] at ho1
    go_loopw [5,6] (fun bv lv wr=>∃ (m f:Nat) (pre:List UInt8),lv=.int .i64 (m:Int)/\OwnB w.heap.size wr bv (l ++ pre)/\Below w.heap.size w wr/\pre ++ putG f m=putG 5 M/\m < 128 ^ (f+1)/\pre.length+f=5/\m<=2000000000)
      (fun _ lv _=>(intOf lv).toNat)
    case atStart=>exact ⟨M,5,[],by have:=hstart.out;first | (rw [this.1 h];rfl) | (rw [this.2.1 h];rfl) | (rw [this.2.2.1 h h']) | (rw [this.2.2.2 h h']),by simpa using ho1,hb1',rfl,fold_pow M hM2,rfl,hM2⟩
    case round =>
      obtain ⟨m,f,pre,rfl,hown,hbel,hpre,hmf,hpf,hm2⟩:=hrel
      have hsz:w.heap.size<=wr.heap.size:=hbel.size
      have Hown:=hide hown
      have Hbel:=hide hbel
      have Hpre:=hide hpre
      have Hmf:=hide hmf
      have hpl:pre.length<=5:=by omega
      have Hpf:=hide hpf
      clear hown hbel hpre hmf hpf ho1 hb1'
      by_cases hm:m<=127
      · have Hend:Hid (l ++ pre ++ [UInt8.ofNat m]=l ++ numB n):=hide (by
          rw [HN.out,<- Hpre.out,putG_last f m hm,List.append_assoc])
        go_wp2_with (at_builtin;refine app_own _ rfl _ _ rfl w.heap.size _ _ (l ++ pre) [UInt8.ofNat m] rfl rfl (Hown.out.alloc _) (rd_one _ _ _ (by have:=byte_of m (by omega);omega)) (by simp;omega) (by simp;omega) ?_;intro v' w1 ho1 hb1)
        go_ret
        rw [Hend.out] at ho1
        exact ⟨_,rfl,ho1,(Hbel.out.alloc hsz _).trans hb1⟩
      · obtain ⟨f',hf'⟩:∃ f',f=f'+1:=by
          cases f with
          | zero=>have:=Hmf.out;simp at this;omega
          | succ f'=>exact ⟨f',rfl⟩
        subst hf'
        have Hnext:Hid ((pre ++ [UInt8.ofNat (m % 128+128)]) ++ putG f' (m / 128)=putG 5 M):=hide (by
          rw [<- Hpre.out,putG_more f' m hm];simp)
        have Hdiv:=hide (div_lt_pow m f' Hmf.out)
        obtain ⟨D,hD,hD2⟩:∃ D:Nat,m % 128=D/\D < 128:=⟨_,rfl,Nat.mod_lt _ (by omega)⟩
        obtain ⟨C,hC,hC2⟩:∃ C:Nat,D+128=C/\C < 256:=⟨_,rfl,by omega⟩
        have e1:bits .and .i64 (m:Int) 127=(D:Int):=by rw [and127 m (by omega),hD]
        have e2:bits .or .i64 (D:Int) 128=(C:Int):=by rw [or128 D hD2,hC]
        rw [hD,hC] at Hnext
        clear hD hC
        go_wp2_with (at_builtin;refine app_own _ rfl _ _ rfl w.heap.size _ _ (l ++ pre) [UInt8.ofNat C] rfl rfl (Hown.out.alloc _) (rd_one _ _ _ (by have:=byte_of C hC2;omega)) (by simp;omega) (by simp;omega) ?_;intro v' w1 ho1 hb1)
        go_roundw
        case rel=>exact ⟨m / 128,f',pre ++ [UInt8.ofNat C],by go_num,by rw [<- List.append_assoc];exact ho1,(Hbel.out.alloc hsz _).trans hb1,Hnext.out,Hdiv.out,by have:=Hpf.out;simp;omega,by omega⟩
        case measure=>simp [intOf];omega
end Go.Proofs.YtohachldbpejpaaGreatDoor
