/- The model's certificates. -/
import Derived.Test.YthidkbhiikdokaaGreatZwCtVal
import Derived.Test.YthidkbhiikdokaaGreatZwVsQuo
set_option maxRecDepth 20000
set_option maxHeartbeats 1000000
namespace Go.Proofs.YthidkbhiikdokaaGreat
open Go.RowKit
set_option linter.unusedVariables false
def okAt (ls:List ByteArray) (i:Nat):Bool:=nmB (ls.getD i ByteArray.empty) && (decide (i=0) || Op.bytesLess (ls.getD (i - 1) ByteArray.empty).toList (ls.getD i ByteArray.empty).toList)
def nmsB (ls:List ByteArray):Bool:=(List.range ls.length).all (okAt ls) && decide (ls.length<=20)
theorem nms_no (ls:List ByteArray) (k:Nat) (h:k < ls.length) (hk:okAt ls k=false):nmsB ls=false:=by
  unfold nmsB
  rw [Bool.and_eq_false_iff]
  left
  rw [Bool.eq_false_iff];intro ha
  rw [List.all_eq_true] at ha
  have:=ha k (by simpa using h)
  rw [hk] at this;cases this
theorem nms_yes (ls:List ByteArray) (h:∀ j,j < ls.length->okAt ls j=true):nmsB ls=decide (ls.length<=20):=by
  unfold nmsB
  have:(List.range ls.length).all (okAt ls)=true:=by
    rw [List.all_eq_true];intro j hj;exact h j (by simpa using hj)
  rw [this];rfl
theorem okAt_eq (ls:List ByteArray) (k:Nat) (s:ByteArray) (h:k < ls.length) (hs:ls[k]=s):okAt ls k=(nmB s && (decide (k=0) || Op.bytesLess (ls.getD (k - 1) ByteArray.empty).toList s.toList)):=by
  have:ls.getD k ByteArray.empty=s:=by rw [List.getD_eq_getElem?_getD,List.getElem?_eq_getElem h,<- hs];rfl
  unfold okAt;rw [this]
theorem specNamesOk_any (v:Value) (ls:List ByteArray) (w:World) (hr:RdS w v ls) (hl:ls.length<=4000000) (hs:∀ s ∈ ls,s.size<=maxLen) :
    Calls Tryz.prog 19 #[v] w fun e w'=>e=.returned (.bool (nmsB ls))/\Sm w w':=by
  rcases hr with ⟨a,cap,rfl,rfl,-⟩ | ⟨b,off,cap,h0,rfl,h1,h2,h3,h4⟩
  · go_enter Tryz.func19,Tryz.ntmps19
    go_wp2
    refine wp_loop_rounds 1 ?_
    rw [rounds_succ]
    go_wp2
    go_ret
    exact ⟨rfl,Sm.refl _⟩
  · have H4 := hide h4
    have Hs:=hide hs
    clear h4 hs
    go_enter Tryz.func19,Tryz.ntmps19
    go_wp2
    go_loopw [3] (fun i wr=>∃ k:Nat,k<=ls.length/\i=.int .i64 k/\(∀ j,j < k->okAt ls j=true)/\Sm w wr) (fun i _=>ls.length - (intOf i).toNat)
    case atStart=>exact ⟨0,Nat.zero_le _,rfl,fun j hj=>by omega,Sm.refl _⟩
    case round =>
      obtain ⟨k,hk,rfl,hall,hsm⟩:=hrel
      have Hall:=hide hall
      have Hsm:=hide hsm
      by_cases hlt:k < ls.length
      · have hc : wr.cell? ⟨b,off+k,none⟩=some (.string ls[k]):=(hsm.cell _).trans (H4.out k hlt)
        have hsz:=Hs.out ls[k] (List.getElem_mem hlt)
        have Hok:=hide (okAt_eq ls k ls[k] hlt rfl)
        have Hno:=hide (nms_no ls k hlt)
        have hli:(k:Int) < (ls.length:Int):=by omega
        have hprev:k ≥ 1->wr.cell? ⟨b,off+(k - 1),none⟩=some (.string (ls.getD (k - 1) ByteArray.empty)):=fun hk1=>by
          have h:=(hsm.cell _).trans (H4.out (k - 1) (by omega))
          rw [h];rw [List.getD_eq_getElem?_getD,List.getElem?_eq_getElem (by omega)];rfl
        clear hall hsm
        generalize ls[k]=s at hc hsz Hok
        generalize ls.getD (k - 1) ByteArray.empty=p at hprev Hok
        have Hq:=hide (fun w=>specNameOk_any s w hsz)
        clear hsz
        cases hn:nmB s
        · have hf:=hide (Hno.out (by rw [Hok.out,hn];rfl))
          rw [hn] at Hq
          clear hn hprev
          go_wp2
          go_quiet ((go_at_call 49;exact Calls.quiet_of_same (Hq.out _)))
          go_wp2
          go_ret
          exact ⟨ret_bool hf.out.symm,Hsm.out.drewN _⟩
        · rw [hn] at Hq
          by_cases hk1:k < 1
          · have hd:decide (0 < k)=false:=by simp;omega
            have hd2:decide ((0:Int) < (k:Int))=false:=by simp;omega
            have Hnx:Hid (okAt ls k=true):=hide (by rw [Hok.out,hn,show k=0 from by omega];rfl)
            clear hn hprev
            go_wp2
            go_quiet ((go_at_call 49;exact Calls.quiet_of_same (Hq.out _)))
            go_wp2
            go_roundw
            case rel=>exact ⟨k+1,by omega,by go_num,fun j hj=>by
                          by_cases hjk:j=k
                          · subst hjk;exact Hnx.out
                          · exact Hall.out j (by omega),Hsm.out.drewN _⟩
            case measure=>simp [intOf];omega
          · have hcp:=hprev (by omega)
            clear hprev
            have hpos:(0:Int) < (k:Int):=by omega
            have hposN:0 < k:=by omega
            have hd1:decide (0 < k)=true:=by simp;omega
            have hix:((k:Int) - 1).toNat=k - 1:=by omega
            have hix1:(0:Int)<=(k:Int) - 1:=by omega
            have hix2:(k:Int) - 1 < (ls.length:Int):=by omega
            cases hless:Op.bytesLess p.toList s.toList
            · have hf:=hide (Hno.out (by rw [Hok.out,hn,hless];simp;omega))
              clear hn
              go_wp2
              go_quiet ((go_at_call 49;exact Calls.quiet_of_same (Hq.out _)))
              go_wp2
              go_ret
              exact ⟨ret_bool hf.out.symm,Hsm.out.drewN _⟩
            · have Hnx:Hid (okAt ls k=true):=hide (by rw [Hok.out,hn,hless];simp)
              clear hn
              go_wp2
              go_quiet ((go_at_call 49;exact Calls.quiet_of_same (Hq.out _)))
              go_wp2
              go_roundw
              case rel=>exact ⟨k+1,by omega,by go_num,fun j hj=>by
                            by_cases hjk:j=k
                            · subst hjk;exact Hnx.out
                            · exact Hall.out j (by omega),Hsm.out.drewN _⟩
              case measure=>simp [intOf];omega
      · have hf:=hide (nms_yes ls (fun j hj=>Hall.out j (by omega)))
        clear hall hsm
        go_wp2
        go_ret
        exact ⟨ret_bool (by rw [hf.out,Bool.eq_iff_iff];simp only [decide_eq_true_eq];omega),Hsm.out⟩
theorem implNamesOk_any (v:Value) (ls:List ByteArray) (w:World) (hr:RdS w v ls) (hl:ls.length<=4000000) (hs:∀ s ∈ ls,s.size<=maxLen) :
    Calls Tryz.prog 25 #[v] w fun e w'=>e=.returned (.bool (nmsB ls))/\w'=w:=by
  by_cases h20:20 < ls.length
  · have hf:Hid (nmsB ls=false):=hide (by unfold nmsB;rw [decide_eq_false (by omega)];simp)
    obtain ⟨a,cap,rfl⟩:=hr.shape
    clear hr hs
    go_enter Tryz.func25,Tryz.ntmps25
    go_wp2
    go_ret
    exact ⟨ret_bool hf.out.symm,rfl⟩
  rcases hr with ⟨a,cap,rfl,rfl,-⟩ | ⟨b,off,cap,h0,rfl,h1,h2,h3,h4⟩
  · go_enter Tryz.func25,Tryz.ntmps25
    go_wp2
    refine wp_loop_rounds 1 ?_
    rw [rounds_succ]
    go_wp2
    go_ret
    exact ⟨rfl,rfl⟩
  · have H4 := hide h4
    have Hs:=hide hs
    clear h4 hs
    go_enter Tryz.func25,Tryz.ntmps25
    go_wp2
    go_loop [10] (fun i=>∃ k:Nat,k<=ls.length/\i=.int .i64 k/\(∀ j,j < k->okAt ls j=true)) (fun i=>ls.length - (intOf i).toNat)
    case atStart=>exact ⟨0,Nat.zero_le _,rfl,fun j hj=>by omega⟩
    case round =>
      obtain ⟨k,hk,rfl,hall⟩:=hrel
      have Hall:=hide hall
      by_cases hlt:k < ls.length
      · have hc : w.cell? ⟨b,off+k,none⟩=some (.string ls[k]):=H4.out k hlt
        have hsz:=Hs.out ls[k] (List.getElem_mem hlt)
        have Hok:=hide (okAt_eq ls k ls[k] hlt rfl)
        have Hno:=hide (nms_no ls k hlt)
        have hli:(k:Int) < (ls.length:Int):=by omega
        have hprev:k ≥ 1->w.cell? ⟨b,off+(k - 1),none⟩=some (.string (ls.getD (k - 1) ByteArray.empty)):=fun hk1=>by
          rw [H4.out (k - 1) (by omega)];rw [List.getD_eq_getElem?_getD,List.getElem?_eq_getElem (by omega)];rfl
        clear hall
        generalize ls[k]=s at hc hsz Hok
        generalize ls.getD (k - 1) ByteArray.empty=p at hprev Hok
        have Hq:=hide (fun w=>implNameOk_any s w hsz)
        clear hsz
        cases hn:nmB s
        · have hf:=hide (Hno.out (by rw [Hok.out,hn];rfl))
          rw [hn] at Hq
          clear hn hprev
          go_wp2_with (go_at_call 55;refine (Hq.out _).mono ?_;rintro e w' ⟨rfl,rfl⟩)
          go_ret
          exact ⟨ret_bool hf.out.symm,rfl⟩
        · rw [hn] at Hq
          by_cases hk1:k < 1
          · have Hnx:Hid (okAt ls k=true):=hide (by rw [Hok.out,hn,show k=0 from by omega];rfl)
            clear hn hprev
            go_wp2_with (go_at_call 55;refine (Hq.out _).mono ?_;rintro e w' ⟨rfl,rfl⟩)
            go_round
            case rel=>exact ⟨k+1,by omega,by go_num,fun j hj=>by
                          by_cases hjk:j=k
                          · subst hjk;exact Hnx.out
                          · exact Hall.out j (by omega)⟩
            case measure=>simp [intOf];omega
          · have hcp:=hprev (by omega)
            clear hprev
            have hpos:(0:Int) < (k:Int):=by omega
            have hposN:0 < k:=by omega
            have hix:((k:Int) - 1).toNat=k - 1:=by omega
            have hix1:(0:Int)<=(k:Int) - 1:=by omega
            have hix2:(k:Int) - 1 < (ls.length:Int):=by omega
            cases hless:Op.bytesLess p.toList s.toList
            · have hf:=hide (Hno.out (by rw [Hok.out,hn,hless];simp;omega))
              clear hn
              go_wp2_with (go_at_call 55;refine (Hq.out _).mono ?_;rintro e w' ⟨rfl,rfl⟩)
              go_ret
              exact ⟨ret_bool hf.out.symm,rfl⟩
            · have Hnx:Hid (okAt ls k=true):=hide (by rw [Hok.out,hn,hless];simp)
              clear hn
              go_wp2_with (go_at_call 55;refine (Hq.out _).mono ?_;rintro e w' ⟨rfl,rfl⟩)
              go_round
              case rel=>exact ⟨k+1,by omega,by go_num,fun j hj=>by
                            by_cases hjk:j=k
                            · subst hjk;exact Hnx.out
                            · exact Hall.out j (by omega)⟩
              case measure=>simp [intOf];omega
      · have hf:=hide (nms_yes ls (fun j hj=>Hall.out j (by omega)))
        clear hall
        go_wp2
        go_ret
        exact ⟨ret_bool (by rw [hf.out,eq_comm,decide_eq_true_eq];omega),rfl⟩
def ModV (l:List Vl):Prop:=(0<=totalV l/\totalV l<=1000000000)/\∀ ns,0<=weightV l ns/\weightV l ns<=1000000000
def qcV (r b:Int) (vw:Value):Value:=.agg #[.int .i64 r,.int .i64 b,vw]
def rootB (r b:Int) (ns:List ByteArray):Bool:=decide (r=0) && (decide (b=-1) && decide (ns.length=0))
def allV (l:List Vl) (ns:List ByteArray):Bool:=ns.all (fun s=>hasN (l.map (·.1)) s) && nmsB ns
def quoB (l:List Vl) (ns:List ByteArray):Bool:=decide (2 * totalV l < 3 * weightV l ns)
def qcB (l:List Vl) (r b:Int) (ns:List ByteArray):Bool:=rootB r b ns || (inB r 1 10000 && (inB b 0 100000 && (allV l ns && quoB l ns)))
end Go.Proofs.YthidkbhiikdokaaGreat
