/- Whether a place is one that a block may come behind: the model's l11There. Orders that are good one behind the other, at most so many (plain). Plain facts on numbers: the groups of seven bits of a number, read and put; bit operations on an int that is not below 0. Plain facts on the bytes of a number, and the law of append over bytes of the call's own. PutNum: the program's and the model's lay the same bytes behind what was there, in memory of their own. -/
import Derived.Test.YtohachldbpejpaaGreatDoorZmLaSpec
import Derived.Test.YtohachldbpejpaaGreatDoorZmLgDoS
import Derived.Test.YtohachldbpejpaaGreatDoorRows
import Derived.WalkKit
import Derived.Laws.BitsAllLaws
import Derived.Test.YtohachldbpejpaaGreatDoorZmStrs
import Derived.Laws.AppendOwnNone
namespace Go.Proofs.YtohachldbpejpaaGreatDoor
open Go.RowKit
set_option linter.unusedVariables false
def thB (l:List Bk) (id:Int):Bool:=treeB l && (decide (id=-1) || decide (0<=atI l id))
theorem thB_is (l:List Bk) (id:Int):thB l id=true ↔ treeB l=true/\(chT l id=[]->id=-1):=by
  have hp:=chT_pos l id
  unfold thB
  rw [Bool.and_eq_true,Bool.or_eq_true,decide_eq_true_eq,decide_eq_true_eq]
  constructor
  · rintro ⟨ht,h⟩
    refine ⟨ht,fun hc=>?_⟩
    rcases h with h | h
    · exact h
    · rw [ht,Bool.true_and,decide_eq_true h,hc] at hp
      simp at hp
  · rintro ⟨ht,h⟩
    refine ⟨ht,?_⟩
    by_cases hc:chT l id=[]
    · exact .inl (h hc)
    · rw [ht,Bool.true_and,decide_eq_true (List.length_pos_iff.2 hc)] at hp
      exact .inr (of_decide_eq_true hp.symm)
set_option maxRecDepth 20000 in
set_option maxHeartbeats 2000000 in
theorem specThere_any (v:Value) (l:List Bk) (id:Int) (w:World) (hr:RdKs w v l) (hl:l.length<=4000000) (hf:∀ b ∈ l,FewK b) (hbd:∀ b ∈ l,-9223372036854775808<=b.tr/\b.tr<=9223372036854775807) :
    Calls Tryz.prog 79 #[v,.int .i64 id] w fun e w'=>e=.returned (.bool (thB l id))/\Below w.heap.size w w':=by
  obtain ⟨a,cap,rfl⟩:=hr.shape
  have HT:=hide (specTreeOk_any _ l w hr hl hf hbd)
  have HA:=hide (fun V (hV:Below w.heap.size w V)=>specAt_any _ l id V (hr.below hV (Nat.le_refl _)) hl)
  have HX:Hid (thB l id=(treeB l && (decide (id=-1) || decide (0<=atI l id)))):=hide rfl
  generalize thB l id=X at HX ⊢
  generalize atI l id=A at HX HA
  clear hr hf hbd
  go_enter Tryz.func79,Tryz.ntmps79
  go_wp2_with fail
  refine HT.out.mono ?_
  rintro e w2 ⟨rfl,hb2⟩
  cases htb:treeB l
  · rw [htb,Bool.false_and] at HX
    clear htb HA HT
    go_wp2
    go_ret
    exact ⟨ret_bool HX.out.symm,hb2⟩
  · rw [htb,Bool.true_and] at HX
    have HA2:=hide (HA.out w2 hb2)
    clear htb HA HT
    by_cases hid:id=-1
    · rw [decide_eq_true hid,Bool.true_or] at HX
      have hq:(id == -1)=true:=by rw [hid];rfl
      clear hid HA2
      go_wp2
      go_ret
      exact ⟨ret_bool HX.out.symm,hb2⟩
    · rw [decide_eq_false hid,Bool.false_or] at HX
      have hq:(id == -1)=false:=by rw [beq_eq_false_iff_ne];exact hid
      clear hid
      go_wp2_with fail
      refine HA2.out.mono ?_
      rintro e w3 ⟨rfl,rfl⟩
      clear HA2
      by_cases hA:0<=A
      · rw [decide_eq_true hA] at HX
        have hAd:decide (0<=A)=true:=decide_eq_true hA
        go_wp2
        go_ret
        exact ⟨ret_bool HX.out.symm,hb2⟩
      · rw [decide_eq_false hA] at HX
        have hAd:decide (0<=A)=false:=decide_eq_false hA
        go_wp2
        go_ret
        exact ⟨ret_bool HX.out.symm,hb2⟩
end Go.Proofs.YtohachldbpejpaaGreatDoor

namespace Go.Proofs.YtohachldbpejpaaGreatDoor
open Go.RowKit
set_option linter.unusedVariables false
def gdS (e:Int) (most:Nat) (s:List Ac × List Tx5) (t:Tx5):List Ac × List Tx5 :=
  if s.2.length=most then s else if (apA e s.1 t).2=0 then ((apA e s.1 t).1,s.2 ++ [t]) else s
def gdA (e:Int) (l:List Ac) (ts:List Tx5) (most:Nat):List Ac × List Tx5:=ts.foldl (gdS e most) (l,[])
theorem gdA_snoc (e:Int) (l:List Ac) (ts:List Tx5) (most k:Nat) (h:k < ts.length):gdA e l (ts.take (k+1)) most=gdS e most (gdA e l (ts.take k) most) ts[k]:=by
  rw [List.take_succ_eq_append_getElem h]
  unfold gdA
  rw [List.foldl_append]
  rfl
theorem gdS_full {e:Int} {most:Nat} {s:List Ac × List Tx5} {t:Tx5} (h:s.2.length=most):gdS e most s t=s:=by unfold gdS;rw [if_pos h]
theorem gdS_good {e:Int} {most:Nat} {s:List Ac × List Tx5} {t:Tx5} (h:s.2.length ≠ most) (h2:(apA e s.1 t).2=0):gdS e most s t=((apA e s.1 t).1,s.2 ++ [t]):=by unfold gdS;rw [if_neg h,if_pos h2]
theorem gdS_bad {e:Int} {most:Nat} {s:List Ac × List Tx5} {t:Tx5} (h:s.2.length ≠ most) (h2:(apA e s.1 t).2 ≠ 0):gdS e most s t=s:=by unfold gdS;rw [if_neg h,if_neg h2]
theorem gd_stop {e:Int} {most:Nat}:∀ (ts:List Tx5) (s:List Ac × List Tx5),s.2.length=most->ts.foldl (gdS e most) s=s
  | [],s,_=>rfl
  | t :: ts,s,h=>by rw [List.foldl_cons,gdS_full h];exact gd_stop (e:=e) ts s h
theorem gdS_is (e:Int) (most:Nat):∀ (ts:List Tx5) (s:List Ac × List Tx5),(ts.foldl (gdS e most) s).1=s.1\/acsB (ts.foldl (gdS e most) s).1=true
  | [],s=>.inl rfl
  | t :: ts,s=>by
    rw [List.foldl_cons]
    rcases gdS_is e most ts (gdS e most s t) with h | h
    · by_cases h1:s.2.length=most
      · rw [gdS_full h1] at h ⊢;exact .inl h
      · by_cases h2:(apA e s.1 t).2=0
        · rw [gdS_good h1 h2] at h ⊢
          rcases apA_is e s.1 t with h3 | h3
          · exact .inl (h.trans h3)
          · exact .inr (by rw [h];exact h3)
        · rw [gdS_bad h1 h2] at h ⊢;exact .inl h
    · exact .inr h
theorem gdA_few {e:Int} {l:List Ac} (ts:List Tx5) (most:Nat) (hl:l.length<=3999999) (hall:∀ a ∈ l,a.1.size<=maxLen/\a.2.2.2.2.length<=3999999) :
    (gdA e l ts most).1.length<=3999999/\∀ a ∈ (gdA e l ts most).1,a.1.size<=maxLen/\a.2.2.2.2.length<=3999999:=by
  rcases gdS_is e most ts (l,[]) with h | h
  · have h':(gdA e l ts most).1=l:=h
    rw [h']
    exact ⟨hl,hall⟩
  · have h':acsB (gdA e l ts most).1=true:=h
    refine ⟨by have:=(acs_parts h').1;omega,fun a ha=>?_⟩
    have hp:=ac_parts (acs_all h' a ha)
    have hn:=hp.1
    unfold nmB inB at hn
    simp only [Bool.and_eq_true,decide_eq_true_eq] at hn
    exact ⟨by unfold maxLen;omega,by omega⟩
end Go.Proofs.YtohachldbpejpaaGreatDoor

namespace Go.Proofs.YtohachldbpejpaaGreatDoor
open Go.RowKit
theorem i64_and_nat (a b:Nat) (ha:a < 9223372036854775808) (hb:b < 9223372036854775808):bits .and .i64 (a:Int) (b:Int)=((a &&& b:Nat):Int):=by
  have hx:a &&& b < 2 ^ 63:=Nat.and_lt_two_pow _ (by omega)
  show IntKind.i64.wrap ((BitVec.ofInt 64 (a:Int) &&& BitVec.ofInt 64 (b:Int)).toNat:Int)=_
  rw [BitVec.toNat_and,ofInt_u64 a (by omega),ofInt_u64 b (by omega),IntKind.wrap_i64]
  omega
theorem i64_or_nat (a b:Nat) (ha:a < 9223372036854775808) (hb:b < 9223372036854775808):bits .or .i64 (a:Int) (b:Int)=((a ||| b:Nat):Int):=by
  have hx:a ||| b < 2 ^ 63:=Nat.or_lt_two_pow (by omega) (by omega)
  show IntKind.i64.wrap ((BitVec.ofInt 64 (a:Int) ||| BitVec.ofInt 64 (b:Int)).toNat:Int)=_
  rw [BitVec.toNat_or,ofInt_u64 a (by omega),ofInt_u64 b (by omega),IntKind.wrap_i64]
  omega
theorem and127 (a:Nat) (ha:a < 9223372036854775808):bits .and .i64 (a:Int) 127=((a % 128:Nat):Int):=by
  have:=i64_and_nat a 127 ha (by omega)
  rw [show ((127:Nat):Int)=127 from rfl] at this
  rw [this,show (127:Nat)=2 ^ 7 - 1 from rfl,Nat.and_two_pow_sub_one_eq_mod]
theorem or_high (a c i:Nat) (h:a < 2 ^ i):a ||| c * 2 ^ i=a+c * 2 ^ i:=by
  rw [<- Nat.shiftLeft_eq,Nat.or_comm,<- Nat.shiftLeft_add_eq_or_of_lt h,Nat.add_comm]
theorem or128 (a:Nat) (ha:a < 128):bits .or .i64 (a:Int) 128=((a+128:Nat):Int):=by
  have:=i64_or_nat a 128 (by omega) (by omega)
  rw [show ((128:Nat):Int)=128 from rfl] at this
  rw [this]
  have h:=or_high a 1 7 (by omega)
  simp at h
  rw [h]
def gr:Nat->List UInt8->Nat->Nat->Option (Nat × Nat × Nat)
  | 0,_,_,_=>none
  | _+1,[],_,_=>none
  | f+1,c :: t,m,k=>if 128<=c.toNat then gr f t (m+c.toNat % 128 * 128 ^ k) (k+1) else some (m+c.toNat % 128 * 128 ^ k,k,c.toNat)
def getN (l:List UInt8) (p:Int):Int × Int × Bool :=
  if 0<=p/\p < l.length then
    match gr 5 (l.drop p.toNat) 0 0 with
    | none=>(0,0,false)
    | some (m,k,c)=>if (0 < k/\c=0)\/2000000000 < m then (0,0,false) else ((if m % 2=1 then -((m:Int) / 2) - 1 else (m:Int) / 2),p+k+1,true)
  else (0,0,false)
end Go.Proofs.YtohachldbpejpaaGreatDoor

namespace Go.Proofs.YtohachldbpejpaaGreatDoor
open Go.RowKit
set_option linter.unusedVariables false
def foldN (n:Int):Nat:=if n < 0 then (2 * min (-n) 1000000000 - 1).toNat else (2 * min n 1000000000).toNat
def putG:Nat->Nat->List UInt8
  | 0,m=>[UInt8.ofNat m]
  | f+1,m=>if m<=127 then [UInt8.ofNat m] else UInt8.ofNat (m % 128+128) :: putG f (m / 128)
def numB (n:Int):List UInt8:=putG 5 (foldN n)
theorem foldN_le (n:Int):foldN n<=2000000000:=by unfold foldN;split <;> omega
theorem putG_len:∀ (f m:Nat),(putG f m).length<=f+1:=by
  intro f
  induction f with
  | zero=>intro m;simp [putG]
  | succ f ih =>
    intro m
    rw [putG]
    split
    · simp
    · have:=ih (m / 128);simp only [List.length_cons];omega
theorem numB_len (n:Int):(numB n).length<=6:=putG_len 5 _
theorem putG_last (f m:Nat) (h:m<=127):putG f m=[UInt8.ofNat m]:=by
  cases f with
  | zero=>rfl
  | succ f=>rw [putG,if_pos h]
theorem putG_more (f m:Nat) (h:¬ m<=127):putG (f+1) m=UInt8.ofNat (m % 128+128) :: putG f (m / 128):=by rw [putG,if_neg h]
theorem byte_of (m:Nat) (h:m < 256):(m:Int)=((UInt8.ofNat m).toNat:Int):=by
  rw [UInt8.toNat_ofNat'];omega
theorem div_lt_pow (m f:Nat) (h:m < 128 ^ (f+1+1)):m / 128 < 128 ^ (f+1):=by
  rw [Nat.pow_succ] at h
  exact Nat.div_lt_of_lt_mul (by rw [Nat.mul_comm];exact h)
theorem fold_pow (M:Nat) (h:M<=2000000000):M < 128 ^ (5+1):=by
  have:(128:Nat) ^ (5+1)=4398046511104:=by decide
  omega
theorem rd_one (w:World) (x:Int) (c:UInt8) (h:x=(c.toNat:Int)):RdB (w.alloc (.cells #[.int .u8 x] 5)) (.slice (some ⟨w.heap.size,0,none⟩) 1 1) [c]:=by
  refine .inr ⟨w.heap.size,0,1,by simp,rfl,by simp,by unfold maxLen;omega,by simp,?_⟩
  intro i hi
  simp only [List.length_cons,List.length_nil] at hi
  have:i=0:=by omega
  subst this
  simp [World.cell?_alloc_at,h]
theorem own_nil (w:World) (base:Nat) (h:base<=w.heap.size):OwnB base (w.alloc (.cells #[] 5)) (.slice (some ⟨w.heap.size,0,none⟩) 0 0) [] :=
  World.ownsRow_lit w #[] 0 h (by unfold maxLen;omega) (by simp)
theorem OwnB.alloc {base:Nat} {w:World} {v:Value} {l:List UInt8} (h:OwnB base w v l) (o:Obj):OwnB base (w.alloc o) v l:=World.ownsRow.alloc h o
theorem app_own {ops:Array Oper} {rest:List Oper} {o:Oper} {a:Act} {Q:Exit->Act->World->Prop} (w:World) (hgd:o.guard=none) (s x:Operand)
    (ho:o.op=.call { callee:=.builtin .append,args:=#[s,x],argTypes:=#[22,22] })
    (base:Nat) (v vx:Value) (l k:List UInt8) (hs:a.eval s=v) (hx:a.eval x=vx) (hown:OwnB base w v l) (hrd:RdB w vx k)
    (hlen:l.length+k.length<=100000000) (hbase:base<=w.heap.size)
    (h:∀ v' w',OwnB base w' v' (l ++ k)->Below base w w'->wpList Tryz.prog ops Q rest (a.put o.dst v') w'):wpList Tryz.prog ops Q (o :: rest) a w:=by
  obtain ⟨i0,hi,hz0,hz1,hz2⟩:=info_parts Tryz.infoU8
  have hbel:∀ w',w.grownBy w' v.ownBlock->Below base w w':=fun w' hg=>(Below.refl _ _).grown hg hbase (fun k hk=>(World.ownsRow.lt hown k hk).1)
  rcases hrd with ⟨ax,cap,rfl,rfl,hnil⟩ | ⟨b,off,cap,h0,rfl,h1,h2,h3,h4⟩
  · cases ax with
    | none =>
      have hc:cap=0:=hnil rfl
      subst hc
      refine wpList_append_own_none hgd s x 22 ho base 5 i0 1 Tryz.underlying22 hi v l.length (l.map cb) hs hown hx ?_
      exact h v w (by simpa [OwnB] using hown) (Below.refl _ _)
    | some ad =>
      refine wpList_append_own w hgd s x 22 ho base 5 i0 (.int .u8 0) 1 1 Tryz.underlying22 hi hz0 hz1 hz2 rfl (by decide) v l.length (l.map cb) hs hown ad 0 cap [] hx rfl (by intro j u hj;simp at hj) (by intro u hu;simp at hu) (by unfold maxLen;simp at hlen;omega) (by simp at hlen;omega) hbase ?_
      intro v' w' ho' hg _
      exact h v' w' (by simpa [OwnB] using ho') (hbel w' hg)
  · refine wpList_append_own w hgd s x 22 ho base 5 i0 (.int .u8 0) 1 1 Tryz.underlying22 hi hz0 hz1 hz2 rfl (by decide) v l.length (l.map cb) hs hown ⟨b,off,none⟩ k.length cap (k.map cb) hx (by simp) ?_ ?_ (by unfold maxLen;omega) (by omega) hbase ?_
    · intro j u hj
      have hj':j < k.length:=by have:=(List.getElem?_eq_some_iff.1 hj).1;simpa using this
      have ea:(⟨b,off,none⟩:Addr).add j=⟨b,off+j,none⟩:=by
        by_cases hz:j=0
        · subst hz;simp [Addr.add]
        · simp [Addr.add,hz]
      rw [ea,h4 j hj']
      simp [hj',cb] at hj
      rw [<- hj]
    · intro u hu
      obtain ⟨c,_,rfl⟩:=List.mem_map.1 hu
      rfl
    · intro v' w' ho' hg _
      exact h v' w' (by simpa [OwnB] using ho') (hbel w' hg)
end Go.Proofs.YtohachldbpejpaaGreatDoor

namespace Go.Proofs.YtohachldbpejpaaGreatDoor
open Go.RowKit
set_option linter.unusedVariables false
theorem foldN_hi (n:Int) (h:1000000000 < n):foldN n=2000000000:=by unfold foldN;rw [if_neg (by omega)];omega
theorem foldN_lo (n:Int) (h:n < -1000000000):foldN n=1999999999:=by unfold foldN;rw [if_pos (by omega)];omega
theorem foldN_pos (n:Int) (h:0<=n) (h':n<=1000000000):(foldN n:Int)=2 * n:=by unfold foldN;rw [if_neg (by omega)];omega
theorem foldN_neg (n:Int) (h:n < 0) (h':-1000000000<=n):(foldN n:Int)=-2 * n - 1:=by unfold foldN;rw [if_pos (by omega)];omega
theorem num_cases (n:Int):1000000000 < n\/n < -1000000000\/(0<=n/\n<=1000000000)\/(n < 0/\-1000000000<=n):=by omega
set_option maxRecDepth 20000 in
theorem fold_any (n:Int) (w:World) (h1:-9223372036854775808<=n) (h2:n<=9223372036854775807) :
    Calls Tryz.prog 208 #[.int .i64 n] w fun e w'=>e=.returned (.int .i64 (foldN n))/\w'=w:=by
  rcases num_cases n with h | h | ⟨h,h'⟩ | ⟨h,h'⟩
  · have hf:=hide (foldN_hi n h)
    go_enter Tryz.func208,Tryz.ntmps208
    go_wp2
    go_ret
    exact ⟨ret_int (by rw [hf.out];first | rfl | omega),rfl⟩
  · have hf:=hide (foldN_lo n h)
    go_enter Tryz.func208,Tryz.ntmps208
    go_wp2
    go_ret
    exact ⟨ret_int (by rw [hf.out];first | rfl | omega),rfl⟩
  · have hf:=hide (foldN_pos n h h')
    go_enter Tryz.func208,Tryz.ntmps208
    go_wp2
    go_ret
    exact ⟨ret_int (by rw [hf.out] <;> omega),rfl⟩
  · have hf:=hide (foldN_neg n h h')
    go_enter Tryz.func208,Tryz.ntmps208
    go_wp2
    go_ret
    exact ⟨ret_int (by rw [hf.out] <;> omega),rfl⟩
set_option maxRecDepth 20000 in
set_option maxHeartbeats 400000 in
theorem copied_any (v:Value) (l:List UInt8) (w:World) (hr:RdB w v l) (hl:l.length<=50000000) :
    Calls Tryz.prog 170 #[v] w fun e w'=>∃ v',e=.returned v'/\OwnB w.heap.size w' v' l/\Below w.heap.size w w':=by
  have hb0:Below w.heap.size w (w.alloc (.cells #[] 5)):=(Below.refl _ _).alloc (Nat.le_refl _) _
  have Hr:=hide (hr.below hb0 (Nat.le_refl _))
  have Ho:=hide (own_nil w w.heap.size (Nat.le_refl _))
  have Hb:=hide hb0
  clear hr hb0
  go_enter Tryz.func170,Tryz.ntmps170
  go_wp2_with (at_builtin;refine app_own _ rfl _ _ rfl w.heap.size _ _ [] l rfl rfl Ho.out Hr.out (by simp;omega) (by simp) ?_;intro v' w1 ho1 hb1)
  go_ret
  exact ⟨_,rfl,ho1,Hb.out.trans hb1⟩
set_option maxRecDepth 20000 in
set_option maxHeartbeats 1000000 in
theorem appendNum_any (v:Value) (l:List UInt8) (n:Int) (base:Nat) (w:World) (ho:OwnB base w v l) (hbase:base<=w.heap.size) (hl:l.length<=50000000) (h1:-9223372036854775808<=n) (h2:n<=9223372036854775807) :
    Calls Tryz.prog 171 #[v,.int .i64 n] w fun e w'=>∃ v',e=.returned v'/\OwnB base w' v' (l ++ numB n)/\Below base w w':=by
  have Hf:=hide (fold_any n w h1 h2)
  have hM2:=foldN_le n
  have HN:Hid (numB n=putG 5 (foldN n)):=hide rfl
  generalize foldN n=M at Hf hM2 HN
  have Ho:=hide ho
  clear ho
  go_enter Tryz.func171,Tryz.ntmps171
  go_wp2_with (go_at_call 208;refine Hf.out.mono ?_;rintro e w' ⟨rfl,rfl⟩)
  go_loopw [0,5] (fun bv lv wr=>∃ (m f:Nat) (pre:List UInt8),lv=.int .i64 (m:Int)/\OwnB base wr bv (l ++ pre)/\Below base w' wr/\pre ++ putG f m=putG 5 M/\m < 128 ^ (f+1)/\pre.length+f=5/\m<=2000000000)
    (fun _ lv _=>(intOf lv).toNat)
  case atStart=>exact ⟨M,5,[],rfl,by simpa using Ho.out,Below.refl _ _,rfl,fold_pow M hM2,rfl,hM2⟩
  case round =>
    obtain ⟨m,f,pre,rfl,hown,hbel,hpre,hmf,hpf,hm2⟩:=hrel
    have hsz:base<=wr.heap.size:=by have:=hbel.size;omega
    have Hown:=hide hown
    have Hbel:=hide hbel
    have Hpre:=hide hpre
    have Hmf:=hide hmf
    have hpl:pre.length<=5:=by omega
    have Hpf:=hide hpf
    clear hown hbel hpre hmf hpf
    by_cases hm:m<=127
    · have Hend:Hid (l ++ pre ++ [UInt8.ofNat m]=l ++ numB n):=hide (by
        rw [HN.out,<- Hpre.out,putG_last f m hm,List.append_assoc])
      go_wp2_with (at_builtin;refine app_own _ rfl _ _ rfl base _ _ (l ++ pre) [UInt8.ofNat m] rfl rfl (Hown.out.alloc _) (rd_one _ _ _ (by have:=byte_of m (by omega);omega)) (by simp;omega) (by simp;omega) ?_;intro v' w1 ho1 hb1)
      go_ret
      rw [Hend.out] at ho1
      exact ⟨_,rfl,ho1,(Hbel.out.alloc hsz _).trans hb1⟩
    · obtain ⟨f',hf'⟩:∃ f',f=f'+1:=by
        cases f with
        | zero=>have:=Hmf.out;simp at this;omega
        | succ f'=>exact ⟨f',rfl⟩
      subst hf'
      have Hnext:Hid ((pre ++ [UInt8.ofNat (m % 128+128)]) ++ putG f' (m / 128)=putG 5 M):=hide (by
        rw [<- Hpre.out,putG_more f' m hm];simp)
      have Hdiv:=hide (div_lt_pow m f' Hmf.out)
      go_wp2_with (at_builtin;refine app_own _ rfl _ _ rfl base _ _ (l ++ pre) [UInt8.ofNat (m % 128+128)] rfl rfl (Hown.out.alloc _) (rd_one _ _ _ (by have:=byte_of (m % 128+128) (by omega);omega)) (by simp;omega) (by simp;omega) ?_;intro v' w1 ho1 hb1)
      go_roundw
      case rel=>exact ⟨m / 128,f',pre ++ [UInt8.ofNat (m % 128+128)],by go_num,by rw [<- List.append_assoc];exact ho1,(Hbel.out.alloc hsz _).trans hb1,Hnext.out,Hdiv.out,by have:=Hpf.out;simp;omega,by omega⟩
      case measure=>simp [intOf];omega
set_option maxRecDepth 20000 in
set_option maxHeartbeats 2000000 in
theorem specPutNum_any (v:Value) (l:List UInt8) (n:Int) (w:World) (hr:RdB w v l) (hl:l.length<=40000000) (h1:-9223372036854775808<=n) (h2:n<=9223372036854775807) :
    Calls Tryz.prog 196 #[v,.int .i64 n] w fun e w'=>∃ v',e=.returned v'/\OwnB w.heap.size w' v' (l ++ numB n)/\Below w.heap.size w w':=by
  have hb0:Below w.heap.size w (w.alloc (.cells #[] 5)):=(Below.refl _ _).alloc (Nat.le_refl _) _
  have Hr:=hide (hr.below hb0 (Nat.le_refl _))
  have Ho:=hide (own_nil w w.heap.size (Nat.le_refl _))
  have Hb:=hide hb0
  clear hr hb0
  have hM2:=foldN_le n
  have HN:Hid (numB n=putG 5 (foldN n)):=hide rfl
  obtain ⟨M,hMe⟩:∃ M,foldN n=M:=⟨_,rfl⟩
  rw [hMe] at hM2 HN
  have hstart:Hid ((1000000000 < n->M=2000000000)/\(n < -1000000000->M=1999999999)/\(0<=n->n<=1000000000->(M:Int)=2 * n)/\(n < 0->-1000000000<=n->(M:Int)=-2 * n - 1)):=hide (by
    rw [<- hMe];exact ⟨foldN_hi n,foldN_lo n,foldN_pos n,foldN_neg n⟩)
  clear hMe
  rcases num_cases n with h | h | ⟨h,h'⟩ | ⟨h,h'⟩
  all_goals
    go_enter Tryz.func196,Tryz.ntmps196
    go_wp2_with (at_builtin;refine app_own _ rfl _ _ rfl w.heap.size _ _ [] l rfl rfl Ho.out Hr.out (by simp;omega) (by simp) ?_;intro v1 w1 ho1 hb1)
    have hb1':Below w.heap.size w w1:=Hb.out.trans hb1
    clear hb1
    rw [List.nil_append] at ho1
    go_loopw [5,6] (fun bv lv wr=>∃ (m f:Nat) (pre:List UInt8),lv=.int .i64 (m:Int)/\OwnB w.heap.size wr bv (l ++ pre)/\Below w.heap.size w wr/\pre ++ putG f m=putG 5 M/\m < 128 ^ (f+1)/\pre.length+f=5/\m<=2000000000)
      (fun _ lv _=>(intOf lv).toNat)
    case atStart=>exact ⟨M,5,[],by have:=hstart.out;first | (rw [this.1 h];rfl) | (rw [this.2.1 h];rfl) | (rw [this.2.2.1 h h']) | (rw [this.2.2.2 h h']),by simpa using ho1,hb1',rfl,fold_pow M hM2,rfl,hM2⟩
    case round =>
      obtain ⟨m,f,pre,rfl,hown,hbel,hpre,hmf,hpf,hm2⟩:=hrel
      have hsz:w.heap.size<=wr.heap.size:=hbel.size
      have Hown:=hide hown
      have Hbel:=hide hbel
      have Hpre:=hide hpre
      have Hmf:=hide hmf
      have hpl:pre.length<=5:=by omega
      have Hpf:=hide hpf
      clear hown hbel hpre hmf hpf ho1 hb1'
      by_cases hm:m<=127
      · have Hend:Hid (l ++ pre ++ [UInt8.ofNat m]=l ++ numB n):=hide (by
          rw [HN.out,<- Hpre.out,putG_last f m hm,List.append_assoc])
        go_wp2_with (at_builtin;refine app_own _ rfl _ _ rfl w.heap.size _ _ (l ++ pre) [UInt8.ofNat m] rfl rfl (Hown.out.alloc _) (rd_one _ _ _ (by have:=byte_of m (by omega);omega)) (by simp;omega) (by simp;omega) ?_;intro v' w1 ho1 hb1)
        go_ret
        rw [Hend.out] at ho1
        exact ⟨_,rfl,ho1,(Hbel.out.alloc hsz _).trans hb1⟩
      · obtain ⟨f',hf'⟩:∃ f',f=f'+1:=by
          cases f with
          | zero=>have:=Hmf.out;simp at this;omega
          | succ f'=>exact ⟨f',rfl⟩
        subst hf'
        have Hnext:Hid ((pre ++ [UInt8.ofNat (m % 128+128)]) ++ putG f' (m / 128)=putG 5 M):=hide (by
          rw [<- Hpre.out,putG_more f' m hm];simp)
        have Hdiv:=hide (div_lt_pow m f' Hmf.out)
        obtain ⟨D,hD,hD2⟩:∃ D:Nat,m % 128=D/\D < 128:=⟨_,rfl,Nat.mod_lt _ (by omega)⟩
        obtain ⟨C,hC,hC2⟩:∃ C:Nat,D+128=C/\C < 256:=⟨_,rfl,by omega⟩
        have e1:bits .and .i64 (m:Int) 127=(D:Int):=by rw [and127 m (by omega),hD]
        have e2:bits .or .i64 (D:Int) 128=(C:Int):=by rw [or128 D hD2,hC]
        rw [hD,hC] at Hnext
        clear hD hC
        go_wp2_with (at_builtin;refine app_own _ rfl _ _ rfl w.heap.size _ _ (l ++ pre) [UInt8.ofNat C] rfl rfl (Hown.out.alloc _) (rd_one _ _ _ (by have:=byte_of C hC2;omega)) (by simp;omega) (by simp;omega) ?_;intro v' w1 ho1 hb1)
        go_roundw
        case rel=>exact ⟨m / 128,f',pre ++ [UInt8.ofNat C],by go_num,by rw [<- List.append_assoc];exact ho1,(Hbel.out.alloc hsz _).trans hb1,Hnext.out,Hdiv.out,by have:=Hpf.out;simp;omega,by omega⟩
        case measure=>simp [intOf];omega
end Go.Proofs.YtohachldbpejpaaGreatDoor
