/- What a call owns as bytes, made a text; appends of two and of four bytes. -/
import Derived.Test.YtohachldbpejpaaGreatDoorZoFlat
import Derived.Lib.AppendStr
import Derived.Deep.RegionLaw
import Derived.Laws.IdiomStrings
set_option maxRecDepth 20000
set_option maxHeartbeats 1000000
namespace Go.Proofs.YtohachldbpejpaaGreatDoor
open Go.RowKit
set_option linter.unusedVariables false
theorem foldN_hi (n:Int) (h:1000000000 < n):foldN n=2000000000:=by unfold foldN;rw [if_neg (by omega)];omega
theorem foldN_lo (n:Int) (h:n < -1000000000):foldN n=1999999999:=by unfold foldN;rw [if_pos (by omega)];omega
theorem foldN_pos (n:Int) (h:0<=n) (h':n<=1000000000):(foldN n:Int)=2 * n:=by unfold foldN;rw [if_neg (by omega)];omega
theorem foldN_neg (n:Int) (h:n < 0) (h':-1000000000<=n):(foldN n:Int)=-2 * n - 1:=by unfold foldN;rw [if_pos (by omega)];omega
theorem num_cases (n:Int):1000000000 < n\/n < -1000000000\/(0<=n/\n<=1000000000)\/(n < 0/\-1000000000<=n):=by omega
theorem fold_any (n:Int) (w:World) (h1:-9223372036854775808<=n) (h2:n<=9223372036854775807) :
    Calls Tryz.prog 208 #[.int .i64 n] w fun e w'=>e=.returned (.int .i64 (foldN n))/\w'=w:=by
  rcases num_cases n with h | h | ⟨h,h'⟩ | ⟨h,h'⟩
  · have hf:=hide (foldN_hi n h)
    go_enter Tryz.func208,Tryz.ntmps208
    go_wp2
    go_ret
    exact ⟨ret_int (by rw [hf.out];first | rfl | omega),rfl⟩
  · have hf:=hide (foldN_lo n h)
    go_enter Tryz.func208,Tryz.ntmps208
    go_wp2
    go_ret
    exact ⟨ret_int (by rw [hf.out];first | rfl | omega),rfl⟩
  · have hf:=hide (foldN_pos n h h')
    go_enter Tryz.func208,Tryz.ntmps208
    go_wp2
    go_ret
    exact ⟨ret_int (by rw [hf.out] <;> omega),rfl⟩
  · have hf:=hide (foldN_neg n h h')
    go_enter Tryz.func208,Tryz.ntmps208
    go_wp2
    go_ret
    exact ⟨ret_int (by rw [hf.out] <;> omega),rfl⟩
theorem copied_any (v:Value) (l:List UInt8) (w:World) (hr:RdB w v l) (hl:l.length<=50000000) :
    Calls Tryz.prog 170 #[v] w fun e w'=>∃ v',e=.returned v'/\OwnB w.heap.size w' v' l/\Below w.heap.size w w':=by
  have hb0:Below w.heap.size w (w.alloc (.cells #[] 5)):=(Below.refl _ _).alloc (Nat.le_refl _) _
  have Hr:=hide (hr.below hb0 (Nat.le_refl _))
  have Ho:=hide (own_nil w w.heap.size (Nat.le_refl _))
  have Hb:=hide hb0
  clear hr hb0
  go_enter Tryz.func170,Tryz.ntmps170
  go_wp2_with (at_builtin;refine app_own _ rfl _ _ rfl w.heap.size _ _ [] l rfl rfl Ho.out Hr.out (by simp;omega) (by simp) ?_;intro v' w1 ho1 hb1)
  go_ret
  exact ⟨_,rfl,ho1,Hb.out.trans hb1⟩
theorem appendNum_any (v:Value) (l:List UInt8) (n:Int) (base:Nat) (w:World) (ho:OwnB base w v l) (hbase:base<=w.heap.size) (hl:l.length<=50000000) (h1:-9223372036854775808<=n) (h2:n<=9223372036854775807) :
    Calls Tryz.prog 171 #[v,.int .i64 n] w fun e w'=>∃ v',e=.returned v'/\OwnB base w' v' (l ++ numB n)/\Below base w w':=by
  have Hf:=hide (fold_any n w h1 h2)
  have hM2:=foldN_le n
  have HN:Hid (numB n=putG 5 (foldN n)):=hide rfl
  generalize foldN n=M at Hf hM2 HN
  have Ho:=hide ho
  clear ho
  go_enter Tryz.func171,Tryz.ntmps171
  go_wp2_with (go_at_call 208;refine Hf.out.mono ?_;rintro e w' ⟨rfl,rfl⟩)
  go_loopw [0,5] (fun bv lv wr=>∃ (m f:Nat) (pre:List UInt8),lv=.int .i64 (m:Int)/\OwnB base wr bv (l ++ pre)/\Below base w' wr/\pre ++ putG f m=putG 5 M/\m < 128 ^ (f+1)/\pre.length+f=5/\m<=2000000000)
    (fun _ lv _=>(intOf lv).toNat)
  case atStart=>exact ⟨M,5,[],rfl,by simpa using Ho.out,Below.refl _ _,rfl,fold_pow M hM2,rfl,hM2⟩
  case round =>
    obtain ⟨m,f,pre,rfl,hown,hbel,hpre,hmf,hpf,hm2⟩:=hrel
    have hsz:base<=wr.heap.size:=by have:=hbel.size;omega
    have Hown:=hide hown
    have Hbel:=hide hbel
    have Hpre:=hide hpre
    have Hmf:=hide hmf
    have hpl:pre.length<=5:=by omega
    have Hpf:=hide hpf
    clear hown hbel hpre hmf hpf
    by_cases hm:m<=127
    · have Hend:Hid (l ++ pre ++ [UInt8.ofNat m]=l ++ numB n):=hide (by
        rw [HN.out,<- Hpre.out,putG_last f m hm,List.append_assoc])
      go_wp2_with (at_builtin;refine app_own _ rfl _ _ rfl base _ _ (l ++ pre) [UInt8.ofNat m] rfl rfl (Hown.out.alloc _) (rd_one _ _ _ (by have:=byte_of m (by omega);omega)) (by simp;omega) (by simp;omega) ?_;intro v' w1 ho1 hb1)
      go_ret
      rw [Hend.out] at ho1
      exact ⟨_,rfl,ho1,(Hbel.out.alloc hsz _).trans hb1⟩
    · obtain ⟨f',hf'⟩:∃ f',f=f'+1:=by
        cases f with
        | zero=>have:=Hmf.out;simp at this;omega
        | succ f'=>exact ⟨f',rfl⟩
      subst hf'
      have Hnext:Hid ((pre ++ [UInt8.ofNat (m % 128+128)]) ++ putG f' (m / 128)=putG 5 M):=hide (by
        rw [<- Hpre.out,putG_more f' m hm];simp)
      have Hdiv:=hide (div_lt_pow m f' Hmf.out)
      go_wp2_with (at_builtin;refine app_own _ rfl _ _ rfl base _ _ (l ++ pre) [UInt8.ofNat (m % 128+128)] rfl rfl (Hown.out.alloc _) (rd_one _ _ _ (by have:=byte_of (m % 128+128) (by omega);omega)) (by simp;omega) (by simp;omega) ?_;intro v' w1 ho1 hb1)
      go_roundw
      case rel=>exact ⟨m / 128,f',pre ++ [UInt8.ofNat (m % 128+128)],by go_num,by rw [<- List.append_assoc];exact ho1,(Hbel.out.alloc hsz _).trans hb1,Hnext.out,Hdiv.out,by have:=Hpf.out;simp;omega,by omega⟩
      case measure=>simp [intOf];omega
def textB (s:ByteArray):List UInt8:=numB (s.size:Int) ++ s.data.toList
def textsB (ls:List ByteArray):List UInt8:=ls.flatMap textB
theorem textB_len (s:ByteArray):(textB s).length<=6+s.size:=by
  have:=numB_len (s.size:Int)
  simp [textB];omega
theorem textsB_len:∀ ls:List ByteArray,(textsB ls).length<=6 * ls.length+tot ls:=by
  intro ls
  induction ls with
  | nil=>simp [textsB,tot]
  | cons s t ih =>
    have:=textB_len s
    simp only [textsB,tot,List.flatMap_cons,List.length_append,List.length_cons,List.map_cons,List.sum_cons] at ih ⊢
    omega
theorem textsB_snoc (ls:List ByteArray) (k:Nat) (h:k < ls.length):textsB (ls.take (k+1))=textsB (ls.take k) ++ textB ls[k]:=by
  rw [List.take_succ_eq_append_getElem h];simp only [textsB,List.flatMap_append,List.flatMap_cons,List.flatMap_nil,List.append_nil]
theorem textsB_take_len (ls:List ByteArray) (k:Nat):(textsB (ls.take k)).length<=6 * ls.length+tot ls:=by
  have h1:=textsB_len (ls.take k)
  have h2:=tot_take ls k
  have h3:(ls.take k).length<=ls.length:=by simp;omega
  omega
theorem app_str {ops:Array Oper} {rest:List Oper} {o:Oper} {a:Act} {Q:Exit->Act->World->Prop} (w:World) (hgd:o.guard=none) (s x:Operand)
    (ho:o.op=.call { callee:=.builtin .append,args:=#[s,x],argTypes:=#[22,9] })
    (base:Nat) (v:Value) (t:ByteArray) (l:List UInt8) (hs:a.eval s=v) (hx:a.eval x=.string t) (hown:OwnB base w v l)
    (hlen:l.length+t.size<=100000000) (hbase:base<=w.heap.size)
    (h:∀ v' w',OwnB base w' v' (l ++ t.data.toList)->Below base w w'->wpList Tryz.prog ops Q rest (a.put o.dst v') w'):wpList Tryz.prog ops Q (o :: rest) a w:=by
  obtain ⟨i0,hi,hz0,hz1,hz2⟩:=info_parts Tryz.infoU8
  refine Lib.wpList_append_own_string w hgd s x 22 9 ho base 5 i0 Tryz.underlying22 Tryz.underlying9 hi hz0 hz1 hz2 v l.length (l.map cb) hs hown t hx (by unfold maxLen;omega) (by omega) hbase ?_
  intro v' w' ho' hg _
  refine h v' w' ?_ ((Below.refl _ _).grown hg hbase (fun k hk=>(World.ownsRow.lt hown k hk).1))
  have e1:l.map cb ++ Lib.strCells t=(l ++ t.data.toList).map cb:=by
    rw [List.map_append];rfl
  have e2:l.length+t.size=(l ++ t.data.toList).length:=by simp
  rw [e1,e2] at ho'
  exact ho'
theorem putTexts_any (v vs:Value) (l:List UInt8) (ls:List ByteArray) (w:World) (hr:RdB w v l) (hrs:RdS w vs ls) (hl:l.length<=20000000) (hls:ls.length<=2000000) (ht:tot ls<=10000000) :
    Calls Tryz.prog 117 #[v,vs] w fun e w'=>∃ v',e=.returned v'/\OwnB w.heap.size w' v' (l ++ textsB ls)/\Below w.heap.size w w':=by
  have Hc:=hide (copied_any v l w hr (by omega))
  clear hr
  rcases hrs with ⟨a,cap,rfl,rfl,-⟩ | ⟨b,off,cap,h0,rfl,h1,h2,h3,h4⟩
  · go_enter Tryz.func117,Tryz.ntmps117
    go_wp2_with (go_at_call 170;refine Hc.out.mono ?_;rintro e w1 ⟨v1,rfl,ho1,hb1⟩)
    refine wp_loop_rounds 1 ?_
    rw [rounds_succ]
    go_wp2
    go_ret
    exact ⟨_,rfl,by simpa [textsB] using ho1,hb1⟩
  · go_enter Tryz.func117,Tryz.ntmps117
    go_wp2_with (go_at_call 170;refine Hc.out.mono ?_;rintro e w1 ⟨v1,rfl,ho1,hb1⟩)
    go_loopw [5,12] (fun bv iv wr=>∃ k:Nat,k<=ls.length/\iv=.int .i64 (k:Int)/\OwnB w.heap.size wr bv (l ++ textsB (ls.take k))/\Below w.heap.size w wr) (fun _ iv _=>ls.length - (intOf iv).toNat)
    case atStart=>exact ⟨0,by omega,rfl,by simpa [textsB] using ho1,hb1⟩
    case round =>
      obtain ⟨k,hk,rfl,ho,hb⟩:=hrel
      clear ho1 hb1
      by_cases hlt:k < ls.length
      · have hcr:wr.cell? ⟨b,off+k,none⟩=some (.string ls[k]):=(hb.cell (p:=⟨b,off+k,none⟩) h3).trans (h4 k hlt)
        have hsn:=hide (textsB_snoc ls k hlt)
        have hsz:ls[k].size<=10000000:=Nat.le_trans (tot_at ls k hlt) ht
        have hTl:=textsB_take_len ls k
        have HT:Hid (textB ls[k]=numB (ls[k].size:Int) ++ ls[k].data.toList):=hide rfl
        have hnl:=numB_len (ls[k].size:Int)
        have hbs:=hb.size
        generalize ls[k]=s at hcr hsn hsz HT hnl
        generalize textsB (ls.take k)=pre at ho hsn hTl
        have Ha:=hide (appendNum_any _ (l ++ pre) (s.size:Int) w.heap.size wr ho hbs (by simp;omega) (by omega) (by omega))
        generalize numB (s.size:Int)=nb at Ha HT hnl
        have Hb:=hide hb
        clear ho hb h4
        go_wp2_with fail
        refine Ha.out.mono ?_
        rintro e w2 ⟨v2,rfl,ho2,hb2⟩
        have hbs2:=hb2.size
        go_wp2_with (at_builtin;refine app_str _ rfl _ _ rfl w.heap.size _ s (l ++ pre ++ nb) rfl rfl ho2 (by simp;omega) (by omega) ?_;intro v3 w3 ho3 hb3)
        go_roundw
        case rel=>exact ⟨k+1,by omega,by go_num,by rw [hsn.out,HT.out,<- List.append_assoc,<- List.append_assoc];exact ho3,(Hb.out.trans hb2).trans hb3⟩
        case measure=>simp [intOf];omega
      · have e:ls.take k=ls:=List.take_of_length_le (by omega)
        rw [e] at ho
        clear e h4
        go_wp2
        go_ret
        exact ⟨_,rfl,ho,hb⟩
def numsB (ns:List Int):List UInt8:=ns.flatMap numB
theorem numsB_len:∀ ns:List Int,(numsB ns).length<=6 * ns.length:=by
  intro ns
  induction ns with
  | nil=>simp [numsB]
  | cons n t ih =>
    have:=numB_len n
    simp only [numsB,List.flatMap_cons,List.length_append,List.length_cons] at ih ⊢
    omega
theorem numsB_take_len (ns:List Int) (k:Nat):(numsB (ns.take k)).length<=6 * ns.length:=by
  have h:=numsB_len (ns.take k)
  have h3:(ns.take k).length<=ns.length:=by simp;omega
  omega
theorem numsB_snoc (ns:List Int) (k:Nat) (h:k < ns.length):numsB (ns.take (k+1))=numsB (ns.take k) ++ numB ns[k]:=by
  rw [List.take_succ_eq_append_getElem h];simp only [numsB,List.flatMap_append,List.flatMap_cons,List.flatMap_nil,List.append_nil]
theorem putNumsL_any (v:Value) (l:List UInt8) (ns:List Int) (g off cap:Nat) (w:World) (hr:RdB w v l) (hl:l.length<=20000000) (hn:ns.length<=1000) (hg:g < w.heap.size) (hc:∀ i (h:i < ns.length),w.cell? ⟨g,off+i,none⟩=some (.int .i64 ns[i])) (hbd:∀ x ∈ ns,-9223372036854775808<=x/\x<=9223372036854775807) :
    Calls Tryz.prog 116 #[v,.slice (some ⟨g,off,none⟩) ns.length cap] w fun e w'=>∃ v',e=.returned v'/\OwnB w.heap.size w' v' (l ++ numsB ns)/\Below w.heap.size w w':=by
  have Hc:=hide (copied_any v l w hr (by omega))
  have HC:=hide hc
  clear hr hc
  go_enter Tryz.func116,Tryz.ntmps116
  go_wp2_with (go_at_call 170;refine Hc.out.mono ?_;rintro e w1 ⟨v1,rfl,ho1,hb1⟩)
  go_loopw [5,12] (fun bv iv wr=>∃ k:Nat,k<=ns.length/\iv=.int .i64 (k:Int)/\OwnB w.heap.size wr bv (l ++ numsB (ns.take k))/\Below w.heap.size w wr) (fun _ iv _=>ns.length - (intOf iv).toNat)
  case atStart=>exact ⟨0,by omega,rfl,by simpa [numsB] using ho1,hb1⟩
  case round =>
    obtain ⟨k,hk,rfl,ho,hb⟩:=hrel
    clear ho1 hb1
    by_cases hlt:k < ns.length
    · have hcr:wr.cell? ⟨g,off+k,none⟩=some (.int .i64 ns[k]):=(hb.cell (p:=⟨g,off+k,none⟩) hg).trans (HC.out k hlt)
      have hsn:=hide (numsB_snoc ns k hlt)
      have hbx:=hbd ns[k] (List.getElem_mem hlt)
      have hTl:=numsB_take_len ns k
      have hbs:=hb.size
      generalize ns[k]=x at hcr hsn hbx
      generalize numsB (ns.take k)=pre at ho hsn hTl
      have Ha:=hide (appendNum_any _ (l ++ pre) x w.heap.size wr ho hbs (by simp;omega) hbx.1 hbx.2)
      have Hb:=hide hb
      clear ho hb hbx hbd
      go_wp2_with fail
      refine Ha.out.mono ?_
      rintro e w2 ⟨v2,rfl,ho2,hb2⟩
      go_wp2
      go_roundw
      case rel=>exact ⟨k+1,by omega,by go_num,by rw [hsn.out,<- List.append_assoc];exact ho2,Hb.out.trans hb2⟩
      case measure=>simp [intOf];omega
    · have e:ns.take k=ns:=List.take_of_length_le (by omega)
      rw [e] at ho
      clear e
      go_wp2
      go_ret
      exact ⟨_,rfl,ho,hb⟩
theorem cells_two {w:World} {g:Nat} {a b:Int} (h0:w.cell? ⟨g,0,none⟩=some (.int .i64 a)) (h1:w.cell? ⟨g,1,none⟩=some (.int .i64 b)):∀ i (h:i < [a,b].length),w.cell? ⟨g,0+i,none⟩=some (.int .i64 [a,b][i]):=by
  intro i hi
  simp only [List.length_cons,List.length_nil] at hi
  rcases (show i=0\/i=1 from by omega) with rfl | rfl
  · exact h0
  · exact h1
theorem rd_four (w:World) (x y z u:Int) (a b c d:UInt8) (n:Nat) (h1:x=(a.toNat:Int)) (h2:y=(b.toNat:Int)) (h3:z=(c.toNat:Int)) (h4:u=(d.toNat:Int)) (hn:n=w.heap.size):RdB (w.alloc (.cells #[.int .u8 x,.int .u8 y,.int .u8 z,.int .u8 u] 5)) (.slice (some ⟨n,0,none⟩) 4 4) [a,b,c,d]:=by
  subst hn
  refine .inr ⟨w.heap.size,0,4,by simp,rfl,by simp,by unfold maxLen;omega,by simp,?_⟩
  intro i hi
  simp only [List.length_cons,List.length_nil] at hi
  rcases (show i=0\/i=1\/i=2\/i=3 from by omega) with rfl | rfl | rfl | rfl
  · simp [World.cell?_alloc_at,h1]
  · simp [World.cell?_alloc_at,h2]
  · simp [World.cell?_alloc_at,h3]
  · simp [World.cell?_alloc_at,h4]
theorem own_some {base:Nat} {w:World} {v:Value} {l:List UInt8} (h:OwnB base w v l) (hl:0 < l.length):∃ a n c,v=.slice (some a) n c:=by
  obtain ⟨g,cap,hv,_⟩:=h.shape (by intro e;rw [e] at hl;simp at hl)
  exact ⟨_,_,_,hv⟩
theorem str_own (w:World) (v:Value) (l:List UInt8) (h:RdB w v l) (hv:∃ a n c,v=.slice (some a) n c):(convert 22 9 v).run Tryz.prog w=.ok (.string ⟨l.toArray⟩) w:=by
  rcases h with ⟨a,cap,rfl,rfl,hn⟩ | ⟨b,off,cap,h0,rfl,h1,h2,h3,h4⟩
  · obtain ⟨a',n',c',hv'⟩:=hv
    simp only [Value.slice.injEq] at hv'
    obtain ⟨rfl,_,rfl⟩:=hv'
    have:=run_convert_bytes_back (P:=Tryz.prog) w 22 9 5 a' cap [] Tryz.underlying22 Tryz.underlying5 Tryz.underlying9 (by intro j hj;simp at hj)
    simpa using this
  · exact run_convert_bytes_back (P:=Tryz.prog) w 22 9 5 ⟨b,off,none⟩ cap l Tryz.underlying22 Tryz.underlying5 Tryz.underlying9 (by
      intro j hj
      have ea:(⟨b,off,none⟩:Addr).add j=⟨b,off+j,none⟩:=by
        by_cases hz:j=0
        · subst hz;simp [Addr.add]
        · simp [Addr.add,hz]
      rw [ea,h4 j hj])
end Go.Proofs.YtohachldbpejpaaGreatDoor
