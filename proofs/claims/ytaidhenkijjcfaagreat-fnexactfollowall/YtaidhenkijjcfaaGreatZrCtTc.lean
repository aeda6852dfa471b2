/- The model's certificates of leavings. -/
import Derived.Test.YtaidhenkijjcfaaGreatZrVsSumI
import Derived.Test.YtaidhenkijjcfaaGreatZrCtVal
set_option maxRecDepth 20000
set_option maxHeartbeats 2000000
namespace Go.Proofs.YtaidhenkijjcfaaGreat
open Go.RowKit
set_option linter.unusedVariables false
theorem thirdUp_any (n:Nat) (w:World) (hn:n<=1000000000) :
    Calls Tryz.prog 181 #[.int .i64 (n:Int)] w fun e w'=>e=.returned (.int .i64 (((n+2) / 3:Nat):Int))/\Below w.heap.size w w':=by
  have t1:Int.tmod (n:Int) 3=((n % 3:Nat):Int):=by rw [Int.tmod_eq_emod_of_nonneg (by omega)];omega
  have t2:Int.tdiv (n:Int) 3=((n / 3:Nat):Int):=by rw [Int.tdiv_eq_ediv_of_nonneg (by omega)];omega
  by_cases h:0 < n % 3
  · have e:Hid ((n+2) / 3=n / 3+1):=hide (by omega)
    have hm:(0:Int) < ((n % 3:Nat):Int):=by omega
    have hd:n / 3<=1000000000:=by omega
    generalize n % 3=m at t1 hm
    generalize n / 3=q at t2 e hd
    generalize (n+2) / 3=X at e ⊢
    go_enter Tryz.func181,Tryz.ntmps181
    go_wp2
    go_ret
    exact ⟨by rw [e.out];rfl,Below.refl _ _⟩
  · have e:Hid ((n+2) / 3=n / 3):=hide (by omega)
    have hm:¬ (0:Int) < ((n % 3:Nat):Int):=by omega
    have hd:n / 3<=1000000000:=by omega
    generalize n % 3=m at t1 hm
    generalize n / 3=q at t2 e hd
    generalize (n+2) / 3=X at e ⊢
    go_enter Tryz.func181,Tryz.ntmps181
    go_wp2
    go_ret
    exact ⟨by rw [e.out];rfl,Below.refl _ _⟩
theorem implIsQuorum_small (v vn:Value) (l:List Vl) (ns:List ByteArray) (w:World) (hr:RdV w v l) (hrn:RdS w vn ns) (hl:l.length<=4000000) (hln:ns.length<=4000000) (hT:0<=totalV l/\totalV l<=1000000000) :
    Calls Tryz.prog 174 #[v,vn] w fun e w'=>e=.returned (.bool (decide (2 * totalV l < 3 * weightV l ns)))/\Below w.heap.size w w':=by
  obtain ⟨a,c,rfl⟩:=hr.shape
  obtain ⟨an,cn,rfl⟩:=hrn.shape
  have HT:=hide (implTotalOf_any _ l w hr hl)
  have HW:=hide (fun w h1 h2=>implWeightOf_any (.slice a l.length c) (.slice an ns.length cn) l ns w h1 h2 hl hln)
  have Hr:=hide hr
  have Hrn:=hide hrn
  obtain ⟨n,hn⟩:∃ n:Nat,totalV l=(n:Int):=⟨(totalV l).toNat,by omega⟩
  rw [hn] at HT hT ⊢
  have hn2:n<=1000000000:=by omega
  have HU:=hide (fun w=>thirdUp_any n w hn2)
  generalize weightV l ns=W at HW ⊢
  clear hr hrn hn hT
  have Hd:Hid (decide (2 * (n:Int) < 3 * W)=decide ((n:Int) - (((n+2) / 3:Nat):Int) < W)):=hide (by rw [decide_eq_decide];omega)
  generalize decide (2 * (n:Int) < 3 * W)=D at Hd ⊢
  have hq:(n+2) / 3<=n+1:=by omega
  generalize (n+2) / 3=q at Hd HU hq
  go_enter Tryz.func174,Tryz.ntmps174
  go_wp2_with fail
  refine HT.out.mono ?_
  rintro e w1 ⟨rfl,hb1⟩
  go_wp2_with fail
  refine (HW.out _ (Hr.out.below hb1 (Nat.le_refl _)) (Hrn.out.below hb1 (Nat.le_refl _))).mono ?_
  rintro e w2 ⟨rfl,hb2⟩
  go_wp2_with fail
  refine (HU.out _).mono ?_
  rintro e w3 ⟨rfl,hb3⟩
  have hB:=(hb1.trans (hb2.mono hb1.size)).trans (hb3.mono (Nat.le_trans hb1.size hb2.size))
  have hwr:IntKind.i64.wrap ((n:Int) - (q:Int))=(n:Int) - (q:Int):=by rw [IntKind.wrap_i64];omega
  go_wp2
  go_ret
  exact ⟨ret_bool (by rw [Hd.out]),hB⟩
theorem specIsQuorum_small (v vn:Value) (l:List Vl) (ns:List ByteArray) (w:World) (hr:RdV w v l) (hrn:RdS w vn ns) (hl:l.length<=4000000) (hln:ns.length<=4000000) (hT:0<=totalV l/\totalV l<=1000000000) (hW:0<=weightV l ns/\weightV l ns<=1000000000) :
    Calls Tryz.prog 94 #[v,vn] w fun e w'=>e=.returned (.bool (decide (2 * totalV l < 3 * weightV l ns)))/\Below w.heap.size w w':=by
  obtain ⟨a,c,rfl⟩:=hr.shape
  obtain ⟨an,cn,rfl⟩:=hrn.shape
  have HW:=hide (specWeightOf_any _ _ l ns w hr hrn hl hln)
  have HT:=hide (fun w h=>specTotalOf_any (.slice a l.length c) l w h hl)
  have Hr:=hide hr
  generalize weightV l ns=W at HW hW ⊢
  generalize totalV l=T at HT hT ⊢
  have w1:IntKind.i64.wrap (3 * W)=3 * W:=by rw [IntKind.wrap_i64];omega
  have w2:IntKind.i64.wrap (2 * T)=2 * T:=by rw [IntKind.wrap_i64];omega
  clear hr hrn hT hW
  go_enter Tryz.func94,Tryz.ntmps94
  go_wp2_with fail
  refine HW.out.mono ?_
  rintro e w1' ⟨rfl,hb1⟩
  go_wp2_with fail
  refine (HT.out _ (Hr.out.below hb1 (Nat.le_refl _))).mono ?_
  rintro e w2' ⟨rfl,hb2⟩
  have hB:=hb1.trans (hb2.mono hb1.size)
  go_wp2
  go_ret
  exact ⟨rfl,hB⟩
def okAt (ls:List ByteArray) (i:Nat):Bool:=nmB (ls.getD i ByteArray.empty) && (decide (i=0) || Op.bytesLess (ls.getD (i - 1) ByteArray.empty).toList (ls.getD i ByteArray.empty).toList)
def nmsB (ls:List ByteArray):Bool:=(List.range ls.length).all (okAt ls) && decide (ls.length<=20)
theorem nms_no (ls:List ByteArray) (k:Nat) (h:k < ls.length) (hk:okAt ls k=false):nmsB ls=false:=by
  unfold nmsB
  rw [Bool.and_eq_false_iff]
  left
  rw [Bool.eq_false_iff];intro ha
  rw [List.all_eq_true] at ha
  have:=ha k (by simpa using h)
  rw [hk] at this;cases this
theorem nms_yes (ls:List ByteArray) (h:∀ j,j < ls.length->okAt ls j=true):nmsB ls=decide (ls.length<=20):=by
  unfold nmsB
  have:(List.range ls.length).all (okAt ls)=true:=by
    rw [List.all_eq_true];intro j hj;exact h j (by simpa using hj)
  rw [this];rfl
theorem okAt_eq (ls:List ByteArray) (k:Nat) (s:ByteArray) (h:k < ls.length) (hs:ls[k]=s):okAt ls k=(nmB s && (decide (k=0) || Op.bytesLess (ls.getD (k - 1) ByteArray.empty).toList s.toList)):=by
  have:ls.getD k ByteArray.empty=s:=by rw [List.getD_eq_getElem?_getD,List.getElem?_eq_getElem h,<- hs];rfl
  unfold okAt;rw [this]
theorem specNamesOk_any (v:Value) (ls:List ByteArray) (w:World) (hr:RdS w v ls) (hl:ls.length<=4000000) (hs:∀ s ∈ ls,s.size<=maxLen) :
    Calls Tryz.prog 137 #[v] w fun e w'=>e=.returned (.bool (nmsB ls))/\Sm w w':=by
  rcases hr with ⟨a,cap,rfl,rfl,-⟩ | ⟨b,off,cap,h0,rfl,h1,h2,h3,h4⟩
  · go_enter Tryz.func137,Tryz.ntmps137
    go_wp2
    refine wp_loop_rounds 1 ?_
    rw [rounds_succ]
    go_wp2
    go_ret
    exact ⟨rfl,Sm.refl _⟩
  · have H4 := hide h4
    have Hs:=hide hs
    clear h4 hs
    go_enter Tryz.func137,Tryz.ntmps137
    go_wp2
    go_loopw [3] (fun i wr=>∃ k:Nat,k<=ls.length/\i=.int .i64 k/\(∀ j,j < k->okAt ls j=true)/\Sm w wr) (fun i _=>ls.length - (intOf i).toNat)
    case atStart=>exact ⟨0,Nat.zero_le _,rfl,fun j hj=>by omega,Sm.refl _⟩
    case round =>
      obtain ⟨k,hk,rfl,hall,hsm⟩:=hrel
      have Hall:=hide hall
      have Hsm:=hide hsm
      by_cases hlt:k < ls.length
      · have hc : wr.cell? ⟨b,off+k,none⟩=some (.string ls[k]):=(hsm.cell _).trans (H4.out k hlt)
        have hsz:=Hs.out ls[k] (List.getElem_mem hlt)
        have Hok:=hide (okAt_eq ls k ls[k] hlt rfl)
        have Hno:=hide (nms_no ls k hlt)
        have hli:(k:Int) < (ls.length:Int):=by omega
        have hprev:k ≥ 1->wr.cell? ⟨b,off+(k - 1),none⟩=some (.string (ls.getD (k - 1) ByteArray.empty)):=fun hk1=>by
          have h:=(hsm.cell _).trans (H4.out (k - 1) (by omega))
          rw [h];rw [List.getD_eq_getElem?_getD,List.getElem?_eq_getElem (by omega)];rfl
        clear hall hsm
        generalize ls[k]=s at hc hsz Hok
        generalize ls.getD (k - 1) ByteArray.empty=p at hprev Hok
        have Hq:=hide (fun w=>specNameOk_any s w hsz)
        clear hsz
        cases hn:nmB s
        · have hf:=hide (Hno.out (by rw [Hok.out,hn];rfl))
          rw [hn] at Hq
          clear hn hprev
          go_wp2
          go_quiet ((go_at_call 89;exact Calls.quiet_of_same (Hq.out _)))
          go_wp2
          go_ret
          exact ⟨ret_bool hf.out.symm,Hsm.out.drewN _⟩
        · rw [hn] at Hq
          by_cases hk1:k < 1
          · have hd:decide (0 < k)=false:=by simp;omega
            have hd2:decide ((0:Int) < (k:Int))=false:=by simp;omega
            have Hnx:Hid (okAt ls k=true):=hide (by rw [Hok.out,hn,show k=0 from by omega];rfl)
            clear hn hprev
            go_wp2
            go_quiet ((go_at_call 89;exact Calls.quiet_of_same (Hq.out _)))
            go_wp2
            go_roundw
            case rel=>exact ⟨k+1,by omega,by go_num,fun j hj=>by
                          by_cases hjk:j=k
                          · subst hjk;exact Hnx.out
                          · exact Hall.out j (by omega),Hsm.out.drewN _⟩
            case measure=>simp [intOf];omega
          · have hcp:=hprev (by omega)
            clear hprev
            have hpos:(0:Int) < (k:Int):=by omega
            have hposN:0 < k:=by omega
            have hd1:decide (0 < k)=true:=by simp;omega
            have hix:((k:Int) - 1).toNat=k - 1:=by omega
            have hix1:(0:Int)<=(k:Int) - 1:=by omega
            have hix2:(k:Int) - 1 < (ls.length:Int):=by omega
            cases hless:Op.bytesLess p.toList s.toList
            · have hf:=hide (Hno.out (by rw [Hok.out,hn,hless];simp;omega))
              clear hn
              go_wp2
              go_quiet ((go_at_call 89;exact Calls.quiet_of_same (Hq.out _)))
              go_wp2
              go_ret
              exact ⟨ret_bool hf.out.symm,Hsm.out.drewN _⟩
            · have Hnx:Hid (okAt ls k=true):=hide (by rw [Hok.out,hn,hless];simp)
              clear hn
              go_wp2
              go_quiet ((go_at_call 89;exact Calls.quiet_of_same (Hq.out _)))
              go_wp2
              go_roundw
              case rel=>exact ⟨k+1,by omega,by go_num,fun j hj=>by
                            by_cases hjk:j=k
                            · subst hjk;exact Hnx.out
                            · exact Hall.out j (by omega),Hsm.out.drewN _⟩
              case measure=>simp [intOf];omega
      · have hf:=hide (nms_yes ls (fun j hj=>Hall.out j (by omega)))
        clear hall hsm
        go_wp2
        go_ret
        exact ⟨ret_bool (by rw [hf.out,Bool.eq_iff_iff];simp only [decide_eq_true_eq];omega),Hsm.out⟩
theorem implNamesOk_any (v:Value) (ls:List ByteArray) (w:World) (hr:RdS w v ls) (hl:ls.length<=4000000) (hs:∀ s ∈ ls,s.size<=maxLen) :
    Calls Tryz.prog 170 #[v] w fun e w'=>e=.returned (.bool (nmsB ls))/\w'=w:=by
  by_cases h20:20 < ls.length
  · have hf:Hid (nmsB ls=false):=hide (by unfold nmsB;rw [decide_eq_false (by omega)];simp)
    obtain ⟨a,cap,rfl⟩:=hr.shape
    clear hr hs
    go_enter Tryz.func170,Tryz.ntmps170
    go_wp2
    go_ret
    exact ⟨ret_bool hf.out.symm,rfl⟩
  rcases hr with ⟨a,cap,rfl,rfl,-⟩ | ⟨b,off,cap,h0,rfl,h1,h2,h3,h4⟩
  · go_enter Tryz.func170,Tryz.ntmps170
    go_wp2
    refine wp_loop_rounds 1 ?_
    rw [rounds_succ]
    go_wp2
    go_ret
    exact ⟨rfl,rfl⟩
  · have H4 := hide h4
    have Hs:=hide hs
    clear h4 hs
    go_enter Tryz.func170,Tryz.ntmps170
    go_wp2
    go_loop [10] (fun i=>∃ k:Nat,k<=ls.length/\i=.int .i64 k/\(∀ j,j < k->okAt ls j=true)) (fun i=>ls.length - (intOf i).toNat)
    case atStart=>exact ⟨0,Nat.zero_le _,rfl,fun j hj=>by omega⟩
    case round =>
      obtain ⟨k,hk,rfl,hall⟩:=hrel
      have Hall:=hide hall
      by_cases hlt:k < ls.length
      · have hc : w.cell? ⟨b,off+k,none⟩=some (.string ls[k]):=H4.out k hlt
        have hsz:=Hs.out ls[k] (List.getElem_mem hlt)
        have Hok:=hide (okAt_eq ls k ls[k] hlt rfl)
        have Hno:=hide (nms_no ls k hlt)
        have hli:(k:Int) < (ls.length:Int):=by omega
        have hprev:k ≥ 1->w.cell? ⟨b,off+(k - 1),none⟩=some (.string (ls.getD (k - 1) ByteArray.empty)):=fun hk1=>by
          rw [H4.out (k - 1) (by omega)];rw [List.getD_eq_getElem?_getD,List.getElem?_eq_getElem (by omega)];rfl
        clear hall
        generalize ls[k]=s at hc hsz Hok
        generalize ls.getD (k - 1) ByteArray.empty=p at hprev Hok
        have Hq:=hide (fun w=>implNameOk_any s w hsz)
        clear hsz
        cases hn:nmB s
        · have hf:=hide (Hno.out (by rw [Hok.out,hn];rfl))
          rw [hn] at Hq
          clear hn hprev
          go_wp2_with (go_at_call 141;refine (Hq.out _).mono ?_;rintro e w' ⟨rfl,rfl⟩)
          go_ret
          exact ⟨ret_bool hf.out.symm,rfl⟩
        · rw [hn] at Hq
          by_cases hk1:k < 1
          · have Hnx:Hid (okAt ls k=true):=hide (by rw [Hok.out,hn,show k=0 from by omega];rfl)
            clear hn hprev
            go_wp2_with (go_at_call 141;refine (Hq.out _).mono ?_;rintro e w' ⟨rfl,rfl⟩)
            go_round
            case rel=>exact ⟨k+1,by omega,by go_num,fun j hj=>by
                          by_cases hjk:j=k
                          · subst hjk;exact Hnx.out
                          · exact Hall.out j (by omega)⟩
            case measure=>simp [intOf];omega
          · have hcp:=hprev (by omega)
            clear hprev
            have hpos:(0:Int) < (k:Int):=by omega
            have hposN:0 < k:=by omega
            have hix:((k:Int) - 1).toNat=k - 1:=by omega
            have hix1:(0:Int)<=(k:Int) - 1:=by omega
            have hix2:(k:Int) - 1 < (ls.length:Int):=by omega
            cases hless:Op.bytesLess p.toList s.toList
            · have hf:=hide (Hno.out (by rw [Hok.out,hn,hless];simp;omega))
              clear hn
              go_wp2_with (go_at_call 141;refine (Hq.out _).mono ?_;rintro e w' ⟨rfl,rfl⟩)
              go_ret
              exact ⟨ret_bool hf.out.symm,rfl⟩
            · have Hnx:Hid (okAt ls k=true):=hide (by rw [Hok.out,hn,hless];simp)
              clear hn
              go_wp2_with (go_at_call 141;refine (Hq.out _).mono ?_;rintro e w' ⟨rfl,rfl⟩)
              go_round
              case rel=>exact ⟨k+1,by omega,by go_num,fun j hj=>by
                            by_cases hjk:j=k
                            · subst hjk;exact Hnx.out
                            · exact Hall.out j (by omega)⟩
              case measure=>simp [intOf];omega
      · have hf:=hide (nms_yes ls (fun j hj=>Hall.out j (by omega)))
        clear hall
        go_wp2
        go_ret
        exact ⟨ret_bool (by rw [hf.out,eq_comm,decide_eq_true_eq];omega),rfl⟩
def ModV (l:List Vl):Prop:=(0<=totalV l/\totalV l<=1000000000)/\∀ ns,0<=weightV l ns/\weightV l ns<=1000000000
def qcV (r b:Int) (vw:Value):Value:=.agg #[.int .i64 r,.int .i64 b,vw]
def rootB (r b:Int) (ns:List ByteArray):Bool:=decide (r=0) && (decide (b=-1) && decide (ns.length=0))
def allV (l:List Vl) (ns:List ByteArray):Bool:=ns.all (fun s=>hasN (l.map (·.1)) s) && nmsB ns
def quoB (l:List Vl) (ns:List ByteArray):Bool:=decide (2 * totalV l < 3 * weightV l ns)
def qcB (l:List Vl) (r b:Int) (ns:List ByteArray):Bool:=rootB r b ns || (inB r 1 10000 && (inB b 0 100000 && (allV l ns && quoB l ns)))
theorem specL7In_any (v:Value) (l:List Vl) (s:ByteArray) (w:World) (hr:RdV w v l) (hl:l.length<=4000000) :
    Calls Tryz.prog 136 #[v,.string s] w fun e w'=>e=.returned (.bool (hasN (l.map (·.1)) s))/\Below w.heap.size w w':=by
  rcases hr with ⟨a,cap,rfl,rfl,-⟩ | ⟨b,off,cap,h0,rfl,h1,h2,h3,h4⟩
  · go_enter Tryz.func136,Tryz.ntmps136
    go_wp2
    refine wp_loop_rounds 1 ?_
    rw [rounds_succ]
    go_wp2
    go_ret
    exact ⟨rfl,Below.refl _ _⟩
  · have H4:=hide h4
    clear h4
    go_enter Tryz.func136,Tryz.ntmps136
    go_wp2
    go_loopw [5] (fun i wr=>∃ k:Nat,k<=l.length/\i=.int .i64 k/\s ∉ (l.map (·.1)).take k/\Below w.heap.size w wr) (fun i _=>l.length - (intOf i).toNat)
    case atStart=>exact ⟨0,Nat.zero_le _,rfl,by simp,Below.refl _ _⟩
    case round =>
      obtain ⟨k,hk,rfl,hno,hb⟩:=hrel
      have Hno:=hide hno
      clear hno
      by_cases hlt:k < l.length
      · have hc:=(hb.cell (p:=⟨b,off+k * 2,none⟩) h3).trans (H4.out k hlt).1
        have hli:(k:Int) < (l.length:Int):=by omega
        have hlm:k < (l.map (·.1)).length:=by simpa using hlt
        by_cases he:l[k].1=s
        · have Hr:Hid (hasN (l.map (·.1)) s=true):=hide (hasN_yes (by rw [<- he];exact List.mem_map_of_mem (List.getElem_mem _)))
          rw [he] at hc
          clear he
          go_wp2
          go_ret
          exact ⟨ret_bool Hr.out.symm,hb⟩
        · have Hn2:=hide (mem_next hlm Hno.out (by simpa using he))
          have hq:=bytes_ne he
          clear he Hno
          generalize l[k].1=t at hc hq
          go_wp2
          go_roundw
          case rel=>exact ⟨k+1,by omega,by go_num,Hn2.out,hb⟩
          case measure=>simp [intOf];omega
      · have Hr:Hid (hasN (l.map (·.1)) s=false):=hide (hasN_no (by have:=Hno.out;rwa [List.take_of_length_le (by simp;omega)] at this))
        go_wp2
        go_ret
        exact ⟨ret_bool Hr.out.symm,hb⟩
theorem all_no (l:List Vl) (ns:List ByteArray) (k:Nat) (h:k < ns.length) (hk:hasN (l.map (·.1)) ns[k]=false):allV l ns=false:=by
  unfold allV
  have:ns.all (fun s=>hasN (l.map (·.1)) s)=false:=by
    rw [List.all_eq_false]
    exact ⟨ns[k],List.getElem_mem _,by simp [hk]⟩
  rw [this,Bool.false_and]
theorem all_yes (l:List Vl) (ns:List ByteArray) (h:∀ j (hj:j < ns.length),hasN (l.map (·.1)) ns[j]=true):allV l ns=nmsB ns:=by
  unfold allV
  have:ns.all (fun s=>hasN (l.map (·.1)) s)=true:=by
    rw [List.all_eq_true]
    intro s hs
    obtain ⟨j,hj,rfl⟩:=List.mem_iff_getElem.1 hs
    exact h j hj
  rw [this,Bool.true_and]
theorem specL8All_any (v vn:Value) (l:List Vl) (ns:List ByteArray) (w:World) (hr:RdV w v l) (hrn:RdS w vn ns) (hl:l.length<=4000000) (hln:ns.length<=4000000) (hs:∀ s ∈ ns,s.size<=maxLen) :
    Calls Tryz.prog 93 #[v,vn] w fun e w'=>e=.returned (.bool (allV l ns))/\Below w.heap.size w w':=by
  obtain ⟨al,cl,rfl⟩:=hr.shape
  have HN:=hide (fun w h=>specNamesOk_any vn ns w h hln hs)
  have Hrn:=hide hrn
  rcases hrn with ⟨a,cap,rfl,rfl,-⟩ | ⟨b,off,cap,h0,rfl,h1,h2,h3,h4⟩
  · clear hr
    go_enter Tryz.func93,Tryz.ntmps93
    go_wp2
    refine wp_loop_rounds 1 ?_
    rw [rounds_succ]
    go_wp2_with fail
    refine (HN.out _ Hrn.out).mono ?_
    rintro e w2 ⟨rfl,hb2⟩
    go_wp2
    go_ret
    exact ⟨rfl,hb2 _⟩
  · have H4:=hide h4
    have HI:=hide (fun s w h=>specL7In_any (.slice al l.length cl) l s w h hl)
    have Hr:=hide hr
    clear h4 hr
    go_enter Tryz.func93,Tryz.ntmps93
    go_wp2
    go_loopw [5] (fun i wr=>∃ k:Nat,k<=ns.length/\i=.int .i64 k/\(∀ j (hj:j < ns.length),j < k->hasN (l.map (·.1)) ns[j]=true)/\Below w.heap.size w wr) (fun i _=>ns.length - (intOf i).toNat)
    case atStart=>exact ⟨0,Nat.zero_le _,rfl,fun j _ hj=>by omega,Below.refl _ _⟩
    case round =>
      obtain ⟨k,hk,rfl,hok,hb⟩:=hrel
      have Hok:=hide hok
      clear hok
      by_cases hlt:k < ns.length
      · have hc:=(hb.cell (p:=⟨b,off+k,none⟩) h3).trans (H4.out k hlt)
        have hli:(k:Int) < (ns.length:Int):=by omega
        have HI2:=hide (HI.out ns[k] wr (Hr.out.below hb (Nat.le_refl _)))
        have Hno:=hide (all_no l ns k hlt)
        have Hnx:Hid (hasN (l.map (·.1)) ns[k]=true->∀ j (hj:j < ns.length),j < k+1->hasN (l.map (·.1)) ns[j]=true):=hide (fun h j hj hjk=>by
          by_cases e:j=k
          · subst e;exact h
          · exact Hok.out j hj (by omega))
        generalize ns[k]=s at hc HI2 Hno Hnx
        have Hb:=hide hb
        clear hb
        cases hh:hasN (l.map (·.1)) s
        · rw [hh] at HI2
          have Hf:=hide (Hno.out hh)
          clear hh Hnx
          go_wp2_with fail
          refine HI2.out.mono ?_
          rintro e w2 ⟨rfl,hb2⟩
          have HB2:=hide (Hb.out.trans (hb2.mono Hb.out.size))
          go_wp2
          go_ret
          exact ⟨ret_bool Hf.out.symm,HB2.out⟩
        · rw [hh] at HI2
          have Hnx:=hide (Hnx.out hh)
          clear hh
          go_wp2_with fail
          refine HI2.out.mono ?_
          rintro e w2 ⟨rfl,hb2⟩
          have HB2:=hide (Hb.out.trans (hb2.mono Hb.out.size))
          clear hb2
          go_wp2
          go_roundw
          case rel=>exact ⟨k+1,by omega,by go_num,Hnx.out,HB2.out⟩
          case measure=>simp [intOf];omega
      · have Hf:=hide (all_yes l ns (fun j hj=>Hok.out j hj (by omega)))
        have HN2:=hide (HN.out wr (Hrn.out.below hb (Nat.le_refl _)))
        have Hb:=hide hb
        clear hb
        generalize nmsB ns=N at Hf HN2
        go_wp2_with fail
        refine HN2.out.mono ?_
        rintro e w2 ⟨rfl,hb2⟩
        have HB2:=hide (Hb.out.trans (hb2 _))
        go_wp2
        go_ret
        exact ⟨ret_bool Hf.out.symm,HB2.out⟩
theorem specL8Root_any (r b:Int) (vw:Value) (ws:List ByteArray) (w:World) (hrw:RdS w vw ws) (hlw:ws.length<=4000000) :
    Calls Tryz.prog 92 #[qcV r b vw] w fun e w'=>e=.returned (.bool (rootB r b ws))/\Below w.heap.size w w':=by
  obtain ⟨a,c,rfl⟩:=hrw.shape
  clear hrw
  simp only [qcV]
  have HB:=hide ((Below.refl _ w).alloc (Nat.le_refl _) (.cells #[.int .i64 r,.int .i64 b,.slice a ws.length c] 40))
  by_cases h1:r=0
  · by_cases h2:b=-1
    · by_cases h3:ws.length=0
      · have Hf:Hid (rootB r b ws=true):=hide (by unfold rootB;rw [decide_eq_true h1,decide_eq_true h2,decide_eq_true h3];rfl)
        have h3i:((ws.length:Int) == 0)=true:=by rw [beq_iff_eq];omega
        subst h1 h2
        generalize rootB 0 (-1) ws=X at Hf ⊢
        clear h3
        go_enter Tryz.func92,Tryz.ntmps92
        go_wp2
        go_ret
        exact ⟨ret_bool Hf.out.symm,HB.out⟩
      · have Hf:Hid (rootB r b ws=false):=hide (by unfold rootB;rw [decide_eq_false h3,Bool.and_false,Bool.and_false])
        have h3i:((ws.length:Int) == 0)=false:=by rw [beq_eq_false_iff_ne];omega
        subst h1 h2
        generalize rootB 0 (-1) ws=X at Hf ⊢
        go_enter Tryz.func92,Tryz.ntmps92
        go_wp2
        go_ret
        exact ⟨ret_bool Hf.out.symm,HB.out⟩
    · have Hf:Hid (rootB r b ws=false):=hide (by unfold rootB;rw [decide_eq_false h2,Bool.false_and,Bool.and_false])
      have h2i:(b == -1)=false:=by rw [beq_eq_false_iff_ne];exact h2
      subst h1
      generalize rootB 0 b ws=X at Hf ⊢
      clear h2
      go_enter Tryz.func92,Tryz.ntmps92
      go_wp2
      go_ret
      exact ⟨ret_bool Hf.out.symm,HB.out⟩
  · have Hf:Hid (rootB r b ws=false):=hide (by unfold rootB;rw [decide_eq_false h1,Bool.false_and])
    have h1i:(r == 0)=false:=by rw [beq_eq_false_iff_ne];exact h1
    generalize rootB r b ws=X at Hf ⊢
    clear h1
    go_enter Tryz.func92,Tryz.ntmps92
    go_wp2
    go_ret
    exact ⟨ret_bool Hf.out.symm,HB.out⟩
theorem specQcOk_any (v vw:Value) (l:List Vl) (r b:Int) (ws:List ByteArray) (w:World) (hr:RdV w v l) (hrw:RdS w vw ws) (hl:l.length<=4000000) (hlw:ws.length<=4000000) (hs:∀ s ∈ ws,s.size<=maxLen) (hm:ModV l) :
    Calls Tryz.prog 36 #[v,qcV r b vw] w fun e w'=>e=.returned (.bool (qcB l r b ws))/\Below w.heap.size w w':=by
  obtain ⟨al,cl,rfl⟩:=hr.shape
  obtain ⟨a,c,rfl⟩:=hrw.shape
  obtain ⟨w1,hw1⟩:∃ w1,w.alloc (.cells #[.int .i64 r,.int .i64 b,.slice a ws.length c] 40)=w1:=⟨_,rfl⟩
  have hb1:Below w.heap.size w w1:=by rw [<- hw1];exact (Below.refl _ w).alloc (Nat.le_refl _) _
  have k1:Blk w1 w.heap.size 40 [.int .i64 r,.int .i64 b,.slice a ws.length c]:=by rw [<- hw1];exact Blk.new w _ _
  have HR:=hide (specL8Root_any r b _ ws w1 (hrw.below hb1 (Nat.le_refl _)) hlw)
  have HA:=hide (fun V (hb:Below w.heap.size w V)=>specL8All_any (.slice al l.length cl) (.slice a ws.length c) l ws V (hr.below hb (Nat.le_refl _)) (hrw.below hb (Nat.le_refl _)) hl hlw hs)
  have HQ:=hide (fun V (hb:Below w.heap.size w V)=>specIsQuorum_small (.slice al l.length cl) (.slice a ws.length c) l ws V (hr.below hb (Nat.le_refl _)) (hrw.below hb (Nat.le_refl _)) hl hlw hm.1 (hm.2 ws))
  have HX:Hid (qcB l r b ws=(rootB r b ws || (inB r 1 10000 && (inB b 0 100000 && (allV l ws && quoB l ws))))):=hide rfl
  have HU:Hid (decide (2 * totalV l < 3 * weightV l ws)=quoB l ws):=hide rfl
  rw [HU.out] at HQ
  generalize qcB l r b ws=X at HX ⊢
  generalize rootB r b ws=R0 at HX HR
  generalize allV l ws=A0 at HX HA
  generalize quoB l ws=Q0 at HX HQ HU
  simp only [qcV] at *
  have x0:=k1.cell 0
  have x1:=k1.cell 1
  have x2:=k1.cell 2
  simp only [List.getElem?_cons_zero,List.getElem?_cons_succ] at x0 x1 x2
  clear hr hrw hs hm HU
  cases R0
  · rw [Bool.false_or] at HX
    go_enter Tryz.func36,Tryz.ntmps36
    go_wp2_with fail
    refine HR.out.mono ?_
    rintro e w2 ⟨rfl,hb2⟩
    have k2:=k1.below hb2 k1.lt
    have hB2:=hb1.trans (hb2.mono hb1.size)
    have y0:=k2.cell 0
    have y1:=k2.cell 1
    have y2:=k2.cell 2
    simp only [List.getElem?_cons_zero,List.getElem?_cons_succ] at y0 y1 y2
    clear x0 x1 x2 k1 hb2 hw1
    cases h1:inB r 1 10000
    · rw [h1,Bool.false_and] at HX
      go_wp2_with (go_at_call 90;refine (l1In_any _ _ _ _).mono ?_;rintro e w3 ⟨rfl,rfl⟩)
      go_ret
      exact ⟨ret_bool HX.out.symm,hB2⟩
    · rw [h1,Bool.true_and] at HX
      cases h2:inB b 0 100000
      · rw [h2,Bool.false_and] at HX
        go_wp2_with (go_at_call 90;refine (l1In_any _ _ _ _).mono ?_;rintro e w3 ⟨rfl,rfl⟩)
        go_ret
        exact ⟨ret_bool HX.out.symm,hB2⟩
      · rw [h2,Bool.true_and] at HX
        have HA2:=hide (HA.out _ hB2)
        cases A0
        · rw [Bool.false_and] at HX
          go_wp2_with (first
            | (go_at_call 90;refine (l1In_any _ _ _ _).mono ?_;rintro e w3 ⟨rfl,rfl⟩)
            | (go_at_call 93;refine HA2.out.mono ?_;rintro e w4 ⟨rfl,hb4⟩))
          go_ret
          exact ⟨ret_bool HX.out.symm,hB2.trans (hb4.mono hB2.size)⟩
        · rw [Bool.true_and] at HX
          go_wp2_with (first
            | (go_at_call 90;refine (l1In_any _ _ _ _).mono ?_;rintro e w3 ⟨rfl,rfl⟩)
            | (go_at_call 93;refine HA2.out.mono ?_;rintro e w4 ⟨rfl,hb4⟩;have hB4:=hB2.trans (hb4.mono hB2.size);have k4:=k2.below hb4 k2.lt;have z2:=k4.cell 2;simp only [List.getElem?_cons_zero,List.getElem?_cons_succ] at z2)
            | (go_at_call 94;refine (HQ.out _ hB4).mono ?_;rintro e w5 ⟨rfl,hb5⟩))
          go_ret
          exact ⟨ret_bool HX.out.symm,hB4.trans (hb5.mono hB4.size)⟩
  · rw [Bool.true_or] at HX
    go_enter Tryz.func36,Tryz.ntmps36
    go_wp2_with fail
    refine HR.out.mono ?_
    rintro e w2 ⟨rfl,hb2⟩
    have hB2:=hb1.trans (hb2.mono hb1.size)
    clear x0 x1 x2 k1 hb2
    go_wp2
    go_ret
    exact ⟨ret_bool HX.out.symm,hB2⟩
end Go.Proofs.YtaidhenkijjcfaaGreat
namespace Go.Proofs.YtaidhenkijjcfaaGreat
open Go.RowKit Go.Sort
set_option linter.unusedVariables false
def noneB (r:Int) (ws:List ByteArray) (hs:List Int):Bool:=decide (r=0) && (decide (ws.length=0) && decide (hs.length=0))
def hisB (r:Int) (hs:List Int):Bool:=hs.all (fun h=>inB h 0 (r - 1))
def tcB (l:List Vl) (r:Int) (ws:List ByteArray) (hs:List Int):Bool:=noneB r ws hs || (inB r 1 10000 && (allV l ws && (quoB l ws && (decide (hs.length=ws.length) && hisB r hs))))
theorem specL8None_any (r:Int) (vw vh:Value) (ws:List ByteArray) (hs:List Int) (w:World) (hrw:RdS w vw ws) (hrh:RdI w vh hs) (hlw:ws.length<=4000000) (hlh:hs.length<=4000000) :
    Calls Tryz.prog 151 #[tcV r vw vh] w fun e w'=>e=.returned (.bool (noneB r ws hs))/\Below w.heap.size w w':=by
  obtain ⟨a,c,rfl⟩:=hrw.shape
  obtain ⟨a2,c2,rfl⟩:=hrh.shape
  clear hrw hrh
  simp only [tcV]
  have HB:=hide ((Below.refl _ w).alloc (Nat.le_refl _) (.cells #[.int .i64 r,.slice a ws.length c,.slice a2 hs.length c2] 67))
  by_cases h1:r=0
  · by_cases h2:ws.length=0
    · by_cases h3:hs.length=0
      · have Hf:Hid (noneB r ws hs=true):=hide (by unfold noneB;rw [decide_eq_true h1,decide_eq_true h2,decide_eq_true h3];rfl)
        have h2i:((ws.length:Int) == 0)=true:=by rw [beq_iff_eq];omega
        have h3i:((hs.length:Int) == 0)=true:=by rw [beq_iff_eq];omega
        subst h1
        generalize noneB 0 ws hs=X at Hf ⊢
        clear h2 h3
        go_enter Tryz.func151,Tryz.ntmps151
        go_wp2
        go_ret
        exact ⟨ret_bool Hf.out.symm,HB.out⟩
      · have Hf:Hid (noneB r ws hs=false):=hide (by unfold noneB;rw [decide_eq_false h3,Bool.and_false,Bool.and_false])
        have h2i:((ws.length:Int) == 0)=true:=by rw [beq_iff_eq];omega
        have h3i:((hs.length:Int) == 0)=false:=by rw [beq_eq_false_iff_ne];omega
        subst h1
        generalize noneB 0 ws hs=X at Hf ⊢
        clear h2 h3
        go_enter Tryz.func151,Tryz.ntmps151
        go_wp2
        go_ret
        exact ⟨ret_bool Hf.out.symm,HB.out⟩
    · have Hf:Hid (noneB r ws hs=false):=hide (by unfold noneB;rw [decide_eq_false h2,Bool.false_and,Bool.and_false])
      have h2i:((ws.length:Int) == 0)=false:=by rw [beq_eq_false_iff_ne];omega
      subst h1
      generalize noneB 0 ws hs=X at Hf ⊢
      clear h2
      go_enter Tryz.func151,Tryz.ntmps151
      go_wp2
      go_ret
      exact ⟨ret_bool Hf.out.symm,HB.out⟩
  · have Hf:Hid (noneB r ws hs=false):=hide (by unfold noneB;rw [decide_eq_false h1,Bool.false_and])
    have h1i:(r == 0)=false:=by rw [beq_eq_false_iff_ne];exact h1
    generalize noneB r ws hs=X at Hf ⊢
    clear h1
    go_enter Tryz.func151,Tryz.ntmps151
    go_wp2
    go_ret
    exact ⟨ret_bool Hf.out.symm,HB.out⟩
theorem his_no (r:Int) (hs:List Int) (k:Nat) (h:k < hs.length) (hk:inB hs[k] 0 (r - 1)=false):hisB r hs=false:=by
  unfold hisB
  rw [List.all_eq_false]
  exact ⟨hs[k],List.getElem_mem _,by simp [hk]⟩
theorem his_yes (r:Int) (hs:List Int) (h:∀ j (hj:j < hs.length),inB hs[j] 0 (r - 1)=true):hisB r hs=true:=by
  unfold hisB
  rw [List.all_eq_true]
  intro x hx
  obtain ⟨j,hj,rfl⟩:=List.mem_iff_getElem.1 hx
  exact h j hj
theorem RdI.at {w:World} {a:Option Addr} {cap k:Nat} {l:List Int} (h:RdI w (.slice a l.length cap) l) (hk:k < l.length) :
    ∃ b off,a=some ⟨b,off,none⟩/\l.length<=cap/\cap<=maxLen/\b < w.heap.size/\w.cell? ⟨b,off+k,none⟩=some (.int .i64 l[k]):=by
  rcases h with ⟨a',cap',e,rfl,-⟩ | ⟨b,off,cap',h0,e,h1,h2,h3,h4⟩
  · simp at hk
  · simp only [Value.slice.injEq] at e
    obtain ⟨rfl,-,rfl⟩:=e
    exact ⟨b,off,rfl,h1,h2,h3,h4 k hk⟩
theorem sameC_regrown {P:Program} {f:FuncId} {args:Array Value} {w:World} {d:Nat} {os:Array Obj} {v:Value}
    (h:Calls P f args (grow (redrawn w d) os) fun e w'=>e=.returned v/\w'=grow (redrawn w d) os):Calls P f args (grow (redrawn w d) os) fun e w''=>e=.returned v/\∃ p:Regrown,w''=grow (redrawn w p.d) p.os :=
  h.mono fun _ _ ⟨he,hw⟩=>⟨he,⟨⟨d,os⟩,hw⟩⟩
end Go.Proofs.YtaidhenkijjcfaaGreat
