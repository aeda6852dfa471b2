/- Quorums, on both sides, where the weights are small. -/
import Derived.Test.YthidkbhiikdokaaGreatZwVsSum
set_option maxRecDepth 20000
set_option maxHeartbeats 1000000
namespace Go.Proofs.YthidkbhiikdokaaGreat
open Go.RowKit
set_option linter.unusedVariables false
theorem index_any (v:Value) (ns:List ByteArray) (s:ByteArray) (w:World) (hr:RdS w v ns) (hl:ns.length<=4000000) :
    Calls Tryz.prog 57 #[v,.string s] w fun e w'=>(∃ i:Int,e=.returned (.int .i64 i)/\hasN ns s=decide (0<=i))/\Below w.heap.size w w':=by
  rcases hr with ⟨a,cap,rfl,rfl,-⟩ | ⟨b,off,cap,h0,rfl,h1,h2,h3,h4⟩
  · go_enter Tryz.func57,Tryz.ntmps57
    go_wp2
    refine wp_loop_rounds 1 ?_
    rw [rounds_succ]
    go_wp2
    go_ret
    exact ⟨⟨_,rfl,rfl⟩,Below.refl _ _⟩
  · have H4:=hide h4
    clear h4
    go_enter Tryz.func57,Tryz.ntmps57
    go_wp2
    go_loopw [8] (fun i wr=>∃ k:Nat,k<=ns.length/\i=.int .i64 k/\s ∉ ns.take k/\Below w.heap.size w wr) (fun i _=>ns.length - (intOf i).toNat)
    case atStart=>exact ⟨0,Nat.zero_le _,rfl,by simp,Below.refl _ _⟩
    case round =>
      obtain ⟨k,hk,rfl,hno,hb⟩:=hrel
      have Hno:=hide hno
      clear hno
      by_cases hlt:k < ns.length
      · have hc:=(hb.cell (p:=⟨b,off+k,none⟩) h3).trans (H4.out k hlt)
        have hli:(k:Int) < (ns.length:Int):=by omega
        by_cases he:ns[k]=s
        · have Hr:Hid (hasN ns s=decide (0<=(k:Int))):=hide (by rw [hasN_yes (by rw [<- he];exact List.getElem_mem _),decide_eq_true (by omega)])
          rw [he] at hc
          clear he
          go_wp2
          go_ret
          exact ⟨⟨_,rfl,Hr.out⟩,hb⟩
        · have Hn2:=hide (mem_next hlt Hno.out he)
          have hq:=bytes_ne he
          have hq2:=bytes_ne (Ne.symm he)
          clear he Hno
          generalize ns[k]=t at hc hq hq2
          go_wp2
          go_roundw
          case rel=>exact ⟨k+1,by omega,by go_num,Hn2.out,hb⟩
          case measure=>simp [intOf];omega
      · have Hr:Hid (hasN ns s=decide ((0:Int)<=-1)):=hide (by rw [hasN_no (by have:=Hno.out;rwa [List.take_of_length_le (by omega)] at this)];rfl)
        go_wp2
        go_ret
        exact ⟨⟨_,rfl,Hr.out⟩,hb⟩
theorem contains_any (v:Value) (ns:List ByteArray) (s:ByteArray) (w:World) (hr:RdS w v ns) (hl:ns.length<=4000000) :
    Calls Tryz.prog 27 #[v,.string s] w fun e w'=>e=.returned (.bool (hasN ns s))/\Below w.heap.size w w':=by
  obtain ⟨a,c,rfl⟩:=hr.shape
  have HI:=hide (index_any _ ns s w hr hl)
  clear hr
  go_enter Tryz.func27,Tryz.ntmps27
  go_wp2_with fail
  refine HI.out.mono ?_
  rintro e w1 ⟨⟨i,rfl,hi⟩,hb⟩
  have Hi:=hide hi
  clear hi
  go_wp2
  go_ret
  exact ⟨ret_bool Hi.out.symm,hb⟩
end Go.Proofs.YthidkbhiikdokaaGreat
