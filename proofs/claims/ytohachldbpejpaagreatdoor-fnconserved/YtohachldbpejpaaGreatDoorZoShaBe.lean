/- The sixteen words of 64 bytes, the highest byte first. -/
import Derived.Test.YtohachldbpejpaaGreatDoorZoPutPure
set_option maxRecDepth 20000
namespace Go.Proofs.YtohachldbpejpaaGreatDoor
open Go.RowKit
set_option linter.unusedVariables false
def rotr (n x:Nat):Nat:=(x / 2 ^ n ||| x * 2 ^ (32 - n)) % 4294967296
theorem rotr_lt (n x:Nat):rotr n x < 4294967296:=Nat.mod_lt _ (by decide)
theorem rotr_impl (n x q p:Nat) (hx:x < 4294967296) (hq:2 ^ n=q) (hp:2 ^ (32 - n)=p):bits .or .u32 ((x:Int) * (p:Int) % 4294967296) ((x:Int) / (q:Int))=((rotr n x:Nat):Int):=by
  subst hq
  subst hp
  have h1:x / 2 ^ n<=x:=Nat.div_le_self _ _
  have e1:(x:Int) / ((2 ^ n:Nat):Int)=((x / 2 ^ n:Nat):Int):=by simp
  have e2:(x:Int) * ((2 ^ (32 - n):Nat):Int) % 4294967296=((x * 2 ^ (32 - n) % 4294967296:Nat):Int):=by simp
  rw [e1,e2,u32_or_nat _ _ (Nat.mod_lt _ (by decide)) (by omega)]
  have e3:rotr n x=(x / 2 ^ n) % 2 ^ 32 ||| (x * 2 ^ (32 - n)) % 2 ^ 32:=Nat.or_mod_two_pow (n:=32)
  rw [e3,Nat.mod_eq_of_lt (show x / 2 ^ n < 2 ^ 32 by omega),Nat.or_comm]
theorem rotL_2 (x:Nat) (hx:x < 4294967296) (w:World) :
    Calls Tryz.prog 234 #[.int .u32 (x:Int),.int .i64 (-2)] w fun e w'=>e=.returned (.int .u32 ((rotr 2 x:Nat):Int))/\w'=w:=by
  have hs:bits .and .u64 (IntKind.u64.wrap (-2)) 31=30:=by decide
  go_enter Tryz.func234,Tryz.ntmps234
  go_wp2
  go_ret
  exact ⟨ret_int (rotr_impl 2 x 4 1073741824 hx rfl rfl),rfl⟩
theorem rotL_6 (x:Nat) (hx:x < 4294967296) (w:World) :
    Calls Tryz.prog 234 #[.int .u32 (x:Int),.int .i64 (-6)] w fun e w'=>e=.returned (.int .u32 ((rotr 6 x:Nat):Int))/\w'=w:=by
  have hs:bits .and .u64 (IntKind.u64.wrap (-6)) 31=26:=by decide
  go_enter Tryz.func234,Tryz.ntmps234
  go_wp2
  go_ret
  exact ⟨ret_int (rotr_impl 6 x 64 67108864 hx rfl rfl),rfl⟩
theorem rotL_7 (x:Nat) (hx:x < 4294967296) (w:World) :
    Calls Tryz.prog 234 #[.int .u32 (x:Int),.int .i64 (-7)] w fun e w'=>e=.returned (.int .u32 ((rotr 7 x:Nat):Int))/\w'=w:=by
  have hs:bits .and .u64 (IntKind.u64.wrap (-7)) 31=25:=by decide
  go_enter Tryz.func234,Tryz.ntmps234
  go_wp2
  go_ret
  exact ⟨ret_int (rotr_impl 7 x 128 33554432 hx rfl rfl),rfl⟩
theorem rotL_11 (x:Nat) (hx:x < 4294967296) (w:World) :
    Calls Tryz.prog 234 #[.int .u32 (x:Int),.int .i64 (-11)] w fun e w'=>e=.returned (.int .u32 ((rotr 11 x:Nat):Int))/\w'=w:=by
  have hs:bits .and .u64 (IntKind.u64.wrap (-11)) 31=21:=by decide
  go_enter Tryz.func234,Tryz.ntmps234
  go_wp2
  go_ret
  exact ⟨ret_int (rotr_impl 11 x 2048 2097152 hx rfl rfl),rfl⟩
theorem rotL_13 (x:Nat) (hx:x < 4294967296) (w:World) :
    Calls Tryz.prog 234 #[.int .u32 (x:Int),.int .i64 (-13)] w fun e w'=>e=.returned (.int .u32 ((rotr 13 x:Nat):Int))/\w'=w:=by
  have hs:bits .and .u64 (IntKind.u64.wrap (-13)) 31=19:=by decide
  go_enter Tryz.func234,Tryz.ntmps234
  go_wp2
  go_ret
  exact ⟨ret_int (rotr_impl 13 x 8192 524288 hx rfl rfl),rfl⟩
theorem rotL_17 (x:Nat) (hx:x < 4294967296) (w:World) :
    Calls Tryz.prog 234 #[.int .u32 (x:Int),.int .i64 (-17)] w fun e w'=>e=.returned (.int .u32 ((rotr 17 x:Nat):Int))/\w'=w:=by
  have hs:bits .and .u64 (IntKind.u64.wrap (-17)) 31=15:=by decide
  go_enter Tryz.func234,Tryz.ntmps234
  go_wp2
  go_ret
  exact ⟨ret_int (rotr_impl 17 x 131072 32768 hx rfl rfl),rfl⟩
theorem rotL_18 (x:Nat) (hx:x < 4294967296) (w:World) :
    Calls Tryz.prog 234 #[.int .u32 (x:Int),.int .i64 (-18)] w fun e w'=>e=.returned (.int .u32 ((rotr 18 x:Nat):Int))/\w'=w:=by
  have hs:bits .and .u64 (IntKind.u64.wrap (-18)) 31=14:=by decide
  go_enter Tryz.func234,Tryz.ntmps234
  go_wp2
  go_ret
  exact ⟨ret_int (rotr_impl 18 x 262144 16384 hx rfl rfl),rfl⟩
theorem rotL_19 (x:Nat) (hx:x < 4294967296) (w:World) :
    Calls Tryz.prog 234 #[.int .u32 (x:Int),.int .i64 (-19)] w fun e w'=>e=.returned (.int .u32 ((rotr 19 x:Nat):Int))/\w'=w:=by
  have hs:bits .and .u64 (IntKind.u64.wrap (-19)) 31=13:=by decide
  go_enter Tryz.func234,Tryz.ntmps234
  go_wp2
  go_ret
  exact ⟨ret_int (rotr_impl 19 x 524288 8192 hx rfl rfl),rfl⟩
theorem rotL_22 (x:Nat) (hx:x < 4294967296) (w:World) :
    Calls Tryz.prog 234 #[.int .u32 (x:Int),.int .i64 (-22)] w fun e w'=>e=.returned (.int .u32 ((rotr 22 x:Nat):Int))/\w'=w:=by
  have hs:bits .and .u64 (IntKind.u64.wrap (-22)) 31=10:=by decide
  go_enter Tryz.func234,Tryz.ntmps234
  go_wp2
  go_ret
  exact ⟨ret_int (rotr_impl 22 x 4194304 1024 hx rfl rfl),rfl⟩
theorem rotL_25 (x:Nat) (hx:x < 4294967296) (w:World) :
    Calls Tryz.prog 234 #[.int .u32 (x:Int),.int .i64 (-25)] w fun e w'=>e=.returned (.int .u32 ((rotr 25 x:Nat):Int))/\w'=w:=by
  have hs:bits .and .u64 (IntKind.u64.wrap (-25)) 31=7:=by decide
  go_enter Tryz.func234,Tryz.ntmps234
  go_wp2
  go_ret
  exact ⟨ret_int (rotr_impl 25 x 33554432 128 hx rfl rfl),rfl⟩
theorem rotL_any (x:Nat) (hx:x < 4294967296) (k:Int) (hk:k ∈ [-2,-6,-7,-11,-13,-17,-18,-19,-22,-25]) (w:World) :
    Calls Tryz.prog 234 #[.int .u32 (x:Int),.int .i64 k] w fun e w'=>e=.returned (.int .u32 ((rotr k.natAbs x:Nat):Int))/\w'=w:=by
  simp only [List.mem_cons,List.not_mem_nil,or_false] at hk
  rcases hk with rfl | rfl | rfl | rfl | rfl | rfl | rfl | rfl | rfl | rfl
  · exact rotL_2 x hx w
  · exact rotL_6 x hx w
  · exact rotL_7 x hx w
  · exact rotL_11 x hx w
  · exact rotL_13 x hx w
  · exact rotL_17 x hx w
  · exact rotL_18 x hx w
  · exact rotL_19 x hx w
  · exact rotL_22 x hx w
  · exact rotL_25 x hx w
structure S8 where
  a:Nat
  b:Nat
  c:Nat
  d:Nat
  e:Nat
  f:Nat
  g:Nat
  h:Nat
structure S8.Lt (s:S8):Prop where
  a:s.a < 4294967296
  b:s.b < 4294967296
  c:s.c < 4294967296
  d:s.d < 4294967296
  e:s.e < 4294967296
  f:s.f < 4294967296
  g:s.g < 4294967296
  h:s.h < 4294967296
def S8.list (s:S8):List Nat:=[s.a,s.b,s.c,s.d,s.e,s.f,s.g,s.h]
def bS0 (x:Nat):Nat:=rotr 7 x ^^^ rotr 18 x ^^^ x / 8
def bS1 (x:Nat):Nat:=rotr 17 x ^^^ rotr 19 x ^^^ x / 1024
def cS1 (x:Nat):Nat:=rotr 6 x ^^^ rotr 11 x ^^^ rotr 25 x
def cS0 (x:Nat):Nat:=rotr 2 x ^^^ rotr 13 x ^^^ rotr 22 x
def chN (e f g:Nat):Nat:=e &&& f ^^^ (4294967295 - e) &&& g
def majN (a b c:Nat):Nat:=a &&& b ^^^ a &&& c ^^^ b &&& c
theorem and_lt (a b:Nat) (ha:a < 4294967296):a &&& b < 4294967296:=Nat.lt_of_le_of_lt Nat.and_le_left ha
def turn (s:S8) (fed:Nat):S8 :=
  ⟨(s.h+cS1 s.e+chN s.e s.f s.g+fed+(cS0 s.a+majN s.a s.b s.c)) % 4294967296,s.a,s.b,s.c,(s.d+(s.h+cS1 s.e+chN s.e s.f s.g+fed)) % 4294967296,s.e,s.f,s.g⟩
theorem turn_lt (s:S8) (fed:Nat) (h:s.Lt):(turn s fed).Lt :=
  ⟨Nat.mod_lt _ (by decide),h.a,h.b,h.c,Nat.mod_lt _ (by decide),h.e,h.f,h.g⟩
theorem turn_mod (s:S8) (fed:Nat):turn s (fed % 4294967296)=turn s fed:=by
  simp only [turn,S8.mk.injEq,and_true,true_and]
  constructor <;> omega
def S8.vals (k:IntKind) (s:S8):Array Value:=#[.int k s.a,.int k s.b,.int k s.c,.int k s.d,.int k s.e,.int k s.f,.int k s.g,.int k s.h]
theorem u32_xor3 (a b c:Nat) (ha:a < 4294967296) (hb:b < 4294967296) (hc:c < 4294967296):bits .xor .u32 (bits .xor .u32 (a:Int) (b:Int)) (c:Int)=((a ^^^ b ^^^ c:Nat):Int):=by
  rw [u32_xor_nat a b ha hb,u32_xor_nat _ c (Nat.xor_lt_two_pow (n:=32) ha hb) hc]
theorem u32_max_xor (e:Nat) (he:e < 4294967296):bits .xor .u32 IntKind.u32.max (e:Int)=((4294967295 - e:Nat):Int):=by
  show bits .xor .u32 ((4294967295:Nat):Int) (e:Int)=_
  rw [u32_xor_nat _ _ (by omega) he]
  congr 1
  have h:=Nat.sub_add_eq (2 ^ 32) e 1
  apply Nat.eq_of_testBit_eq
  intro i
  rw [show 4294967295 - e=2 ^ 32 - (e+1) from by omega,Nat.testBit_two_pow_sub_succ (by omega),Nat.testBit_xor,show (4294967295:Nat)=2 ^ 32 - 1 from rfl,Nat.testBit_two_pow_sub_one]
  by_cases hi:i < 32
  · simp [hi]
  · simp [hi]
    exact Nat.testBit_lt_two_pow (Nat.lt_of_lt_of_le (show e < 2 ^ 32 from he) (Nat.pow_le_pow_right (by omega) (by omega)))
theorem u32_ch (e f g:Nat) (he:e < 4294967296) (hf:f < 4294967296) (hg:g < 4294967296):bits .xor .u32 (bits .and .u32 (e:Int) (f:Int)) (bits .and .u32 (bits .xor .u32 IntKind.u32.max (e:Int)) (g:Int))=((chN e f g:Nat):Int):=by
  rw [u32_max_xor e he,u32_and_nat e f he hf,u32_and_nat _ g (by omega) hg,u32_xor_nat _ _ (and_lt _ _ he) (and_lt _ _ (by omega))]
  rfl
theorem u32_maj (a b c:Nat) (ha:a < 4294967296) (hb:b < 4294967296) (hc:c < 4294967296):bits .xor .u32 (bits .xor .u32 (bits .and .u32 (a:Int) (b:Int)) (bits .and .u32 (a:Int) (c:Int))) (bits .and .u32 (b:Int) (c:Int))=((majN a b c:Nat):Int):=by
  rw [u32_and_nat a b ha hb,u32_and_nat a c ha hc,u32_and_nat b c hb hc,u32_xor3 _ _ _ (and_lt _ _ ha) (and_lt _ _ ha) (and_lt _ _ hb)]
  rfl
def kC:List Nat:=[1116352408,1899447441,3049323471,3921009573,961987163,1508970993,2453635748,2870763221,3624381080,310598401,607225278,1426881987,1925078388,2162078206,2614888103,3248222580,3835390401,4022224774,264347078,604807628,770255983,1249150122,1555081692,1996064986,2554220882,2821834349,2952996808,3210313671,3336571891,3584528711,113926993,338241895,666307205,773529912,1294757372,1396182291,1695183700,1986661051,2177026350,2456956037,2730485921,2820302411,3259730800,3345764771,3516065817,3600352804,4094571909,275423344,430227734,506948616,659060556,883997877,958139571,1322822218,1537002063,1747873779,1955562222,2024104815,2227730452,2361852424,2428436474,2756734187,3204031479,3329325298]
def hC:S8:=⟨1779033703,3144134277,1013904242,2773480762,1359893119,2600822924,528734635,1541459225⟩
theorem kC_lt:∀ i (h:i < kC.length),kC[i] < 4294967296:=by decide
def WF (b:List Nat):Nat->Nat->Nat
  | 0,i=>b.getD i 0
  | f+1,i=>if i < 16 then b.getD i 0 else (WF b f (i - 16)+(WF b f (i - 7)+bS0 (WF b f (i - 15))+bS1 (WF b f (i - 2)))) % 4294967296
theorem WF_fuel (b:List Nat):∀ (f g i:Nat),i<=f->i<=g->WF b f i=WF b g i
  | 0,g,i,hf,hg=>by
    have h0:i=0:=by omega
    subst h0
    cases g with
    | zero=>rfl
    | succ g=>simp [WF]
  | f + 1,g,i,hf,hg=>by
    by_cases h:i < 16
    · cases g with
      | zero=>simp [WF,h]
      | succ g=>simp [WF,h]
    · obtain ⟨k,rfl⟩:∃ k,g=k+1:=⟨g - 1,by omega⟩
      rw [WF,WF,if_neg h,if_neg h,WF_fuel b f k (i - 16) (by omega) (by omega),WF_fuel b f k (i - 7) (by omega) (by omega),WF_fuel b f k (i - 15) (by omega) (by omega),WF_fuel b f k (i - 2) (by omega) (by omega)]
def W (b:List Nat) (i:Nat):Nat:=WF b i i
theorem W_first (b:List Nat) (i:Nat) (h:i < 16):W b i=b.getD i 0:=by
  unfold W
  cases i with
  | zero=>rfl
  | succ k=>rw [WF,if_pos h]
theorem W_next (b:List Nat) (i:Nat) (h:16<=i):W b i=(W b (i - 16)+(W b (i - 7)+bS0 (W b (i - 15))+bS1 (W b (i - 2)))) % 4294967296:=by
  unfold W
  obtain ⟨k,rfl⟩:∃ k,i=k+1:=⟨i - 1,by omega⟩
  rw [WF,if_neg (by omega),WF_fuel b k (k+1 - 16) (k+1 - 16) (by omega) (by omega),WF_fuel b k (k+1 - 7) (k+1 - 7) (by omega) (by omega),WF_fuel b k (k+1 - 15) (k+1 - 15) (by omega) (by omega),WF_fuel b k (k+1 - 2) (k+1 - 2) (by omega) (by omega)]
theorem W_lt (b:List Nat) (hb:∀ x ∈ b,x < 4294967296) (i:Nat):W b i < 4294967296:=by
  by_cases h:i < 16
  · rw [W_first b i h,List.getD_eq_getElem?_getD]
    cases e:b[i]? with
    | none=>simp
    | some x=>simpa using hb x (List.mem_of_getElem? e)
  · rw [W_next b i (by omega)];exact Nat.mod_lt _ (by decide)
def ix (i j:Nat):Nat:=(max i 16 - 16)+(j+16 - max i 16 % 16) % 16
theorem ix_few (i j:Nat) (h:i<=16) (hj:j < 16):ix i j=j:=by unfold ix;omega
theorem ix_back (i d:Nat) (h:16<=i) (hd:d<=16) (hd1:1<=d):ix i ((i - d) % 16)=i - d:=by unfold ix;omega
theorem ix_here (i:Nat) (h:16<=i):ix i (i % 16)=i - 16:=by unfold ix;omega
theorem ix_next (i j:Nat) (h:16<=i) (hj:j < 16):ix (i+1) j=if j=i % 16 then i else ix i j:=by
  unfold ix;split <;> omega
def ring (b:List Nat) (i:Nat):List Nat:=(List.range 16).map (fun j=>W b (ix i j))
theorem ring_len (b:List Nat) (i:Nat):(ring b i).length=16:=by simp [ring]
theorem ring_at (b:List Nat) (i j:Nat) (h:j < (ring b i).length):(ring b i)[j]=W b (ix i j):=by simp [ring]
theorem ring_zero (b:List Nat) (hb:b.length=16):ring b 0=b:=by
  apply List.ext_getElem
  · rw [ring_len,hb]
  · intro j h1 h2
    rw [ring_at,ix_few 0 j (by omega) (by omega),W_first _ _ (by omega)]
    simp [h2]
theorem ring_same (b:List Nat) (i:Nat) (h:i < 16):ring b (i+1)=ring b i:=by
  apply List.ext_getElem
  · rw [ring_len,ring_len]
  · intro j h1 h2
    rw [ring_len] at h1
    rw [ring_at,ring_at,ix_few i j (by omega) h1,ix_few (i+1) j (by omega) h1]
theorem ring_next (b:List Nat) (i:Nat) (h:16<=i):ring b (i+1)=(ring b i).set (i % 16) (W b i):=by
  apply List.ext_getElem
  · rw [List.length_set,ring_len,ring_len]
  · intro j h1 h2
    rw [ring_len] at h1
    rw [ring_at,ix_next i j h h1,List.getElem_set]
    by_cases e:i % 16=j
    · rw [if_pos e,if_pos e.symm]
    · rw [if_neg e,if_neg (fun q=>e q.symm),ring_at]
def turns (s:S8) (b:List Nat):Nat->S8
  | 0=>s
  | i+1=>turn (turns s b i) (kC.getD i 0+W b i)
theorem turns_lt (s:S8) (b:List Nat) (h:s.Lt):∀ i,(turns s b i).Lt
  | 0=>h
  | i+1=>turn_lt _ _ (turns_lt s b h i)
def addS (x y:S8):S8:=⟨(x.a+y.a) % 4294967296,(x.b+y.b) % 4294967296,(x.c+y.c) % 4294967296,(x.d+y.d) % 4294967296,(x.e+y.e) % 4294967296,(x.f+y.f) % 4294967296,(x.g+y.g) % 4294967296,(x.h+y.h) % 4294967296⟩
theorem addS_lt (x y:S8):(addS x y).Lt:=by constructor <;> exact Nat.mod_lt _ (by decide)
def blockS (s:S8) (b:List Nat):S8:=addS (turns s b 64) s
theorem hC_lt:hC.Lt:=by constructor <;> decide
theorem blockS_lt (s:S8) (b:List Nat):(blockS s b).Lt:=addS_lt _ _
def partW (x y:S8) (k:Nat):List Nat:=(addS x y).list.take k ++ x.list.drop k
theorem list_len (x:S8):x.list.length=8:=rfl
theorem partW_len (x y:S8) (k:Nat):(partW x y k).length=8:=by simp [partW,list_len];omega
theorem partW_zero (x y:S8):partW x y 0=x.list:=by simp [partW]
theorem partW_full (x y:S8):partW x y 8=(addS x y).list:=by simp [partW,S8.list]
theorem addS_at (x y:S8) (k:Nat) (h:k < 8):(addS x y).list[k]'h=(x.list[k]'h+y.list[k]'h) % 4294967296:=by
  match k,h with
  | 0,_ | 1,_ | 2,_ | 3,_ | 4,_ | 5,_ | 6,_ | 7,_=>rfl
theorem partW_at (x y:S8) (k:Nat) (h:k < 8):(partW x y k)[k]'(by rw [partW_len];exact h)=x.list[k]'h:=by
  unfold partW
  rw [List.getElem_append_right (by simp [list_len];omega)]
  simp [list_len,show min k 8=k from by omega]
  rfl
theorem partW_next (x y:S8) (k:Nat) (h:k < 8):partW x y (k+1)=(partW x y k).set k ((x.list[k]'h+y.list[k]'h) % 4294967296):=by
  rw [<- addS_at x y k h]
  apply List.ext_getElem?
  intro j
  unfold partW
  rw [List.getElem?_set]
  by_cases e:k=j
  · subst e
    rw [if_pos rfl,if_pos (by simp [list_len];omega),List.getElem?_append_left (by simp [list_len];omega)]
    simp
    exact List.getElem?_eq_getElem h
  · rw [if_neg e]
    by_cases hlt:j < k
    · rw [List.getElem?_append_left (by simp [list_len];omega),List.getElem?_append_left (by simp [list_len];omega)]
      simp [hlt,show j < k+1 from by omega]
    · rw [List.getElem?_append_right (by simp [list_len];omega),List.getElem?_append_right (by simp [list_len];omega)]
      simp only [List.length_take,list_len,List.getElem?_drop]
      congr 1
      omega
def beN (l:List UInt8):Nat:=l.foldl (fun a c=>a * 256+c.toNat) 0
theorem beN_snoc (l:List UInt8) (c:UInt8):beN (l ++ [c])=beN l * 256+c.toNat:=by simp [beN]
theorem beN_lt (l:List UInt8):beN l < 256 ^ l.length:=by
  suffices h:∀ (n:Nat) (l:List UInt8),l.length=n->beN l < 256 ^ n from h _ l rfl
  intro n
  induction n with
  | zero=>intro l hl;rw [List.length_eq_zero_iff.1 hl];decide
  | succ n ih =>
    intro l hl
    have hne:l ≠ []:=by intro e;rw [e] at hl;simp at hl
    obtain ⟨t,c,rfl⟩:∃ t c,l=t ++ [c]:=⟨l.dropLast,l.getLast hne,(List.dropLast_concat_getLast hne).symm⟩
    have hl':t.length=n:=by simp at hl;omega
    have h1:=ih t hl'
    have h2:c.toNat < 256:=c.toNat_lt
    rw [beN_snoc,Nat.pow_succ]
    omega
def wAt (l:List UInt8) (i j:Nat):Nat:=beN (((l.take i).drop (4 * j)).take 4)
def wds (l:List UInt8) (i:Nat):List Nat:=(List.range 16).map (wAt l i)
def wordsB (l:List UInt8):List Nat:=wds l 64
theorem wds_len (l:List UInt8) (i:Nat):(wds l i).length=16:=by simp [wds]
theorem wds_at (l:List UInt8) (i j:Nat) (h:j < (wds l i).length):(wds l i)[j]=wAt l i j:=by simp [wds]
theorem wds_zero (l:List UInt8):wds l 0=[0,0,0,0,0,0,0,0,0,0,0,0,0,0,0,0]:=by
  simp [wds,wAt,beN,List.range,List.range.loop]
theorem wAt_here (l:List UInt8) (i:Nat) (h:i < l.length):wAt l (i+1) (i / 4)=wAt l i (i / 4) * 256+l[i].toNat:=by
  unfold wAt
  rw [<- beN_snoc]
  congr 1
  rw [List.take_succ_eq_append_getElem h,List.drop_append_of_le_length (by simp;omega)]
  have hlen:((l.take i).drop (4 * (i / 4))).length=i - 4 * (i / 4):=by simp;omega
  generalize (l.take i).drop (4 * (i / 4))=D at hlen ⊢
  rw [List.take_of_length_le (by rw [List.length_append,hlen];simp;omega),List.take_of_length_le (by rw [hlen];omega)]
theorem wAt_few (l:List UInt8) (i:Nat) (h:i < l.length):wAt l i (i / 4) < 16777216:=by
  have h1:=beN_lt (((l.take i).drop (4 * (i / 4))).take 4)
  have h2:(((l.take i).drop (4 * (i / 4))).take 4).length<=3:=by simp;omega
  exact Nat.lt_of_lt_of_le h1 (Nat.le_trans (Nat.pow_le_pow_right (by omega) h2) (by decide))
theorem wAt_lt (l:List UInt8) (i j:Nat):wAt l i j < 4294967296:=by
  have h1:=beN_lt (((l.take i).drop (4 * j)).take 4)
  have h2:(((l.take i).drop (4 * j)).take 4).length<=4:=by simp;omega
  exact Nat.lt_of_lt_of_le h1 (Nat.le_trans (Nat.pow_le_pow_right (by omega) h2) (by decide))
theorem wAt_other (l:List UInt8) (i j:Nat) (h:i < l.length) (hj:j ≠ i / 4):wAt l (i+1) j=wAt l i j:=by
  unfold wAt
  congr 1
  rw [List.take_succ_eq_append_getElem h]
  by_cases hlt:j < i / 4
  · rw [List.drop_append_of_le_length (by simp;omega),List.take_append_of_le_length (by simp;omega)]
  · rw [List.drop_eq_nil_of_le (by simp;omega),List.drop_eq_nil_of_le (by simp;omega)]
theorem wds_next (l:List UInt8) (i:Nat) (h:i < l.length):wds l (i+1)=(wds l i).set (i / 4) (wAt l i (i / 4) * 256+l[i].toNat):=by
  apply List.ext_getElem
  · rw [List.length_set,wds_len,wds_len]
  · intro j h1 h2
    rw [wds_at,List.getElem_set]
    by_cases e:i / 4=j
    · rw [if_pos e,<- e,wAt_here l i h]
    · rw [if_neg e,wds_at,wAt_other l i j h (fun q=>e q.symm)]
theorem wordsB_len (l:List UInt8):(wordsB l).length=16:=wds_len _ _
theorem wordsB_lt (l:List UInt8):∀ x ∈ wordsB l,x < 4294967296:=by
  intro x hx
  simp only [wordsB,wds,List.mem_map] at hx
  obtain ⟨j,_,rfl⟩:=hx
  exact wAt_lt _ _ _
theorem u32_push (x c:Nat) (hx:x < 16777216) (hc:c < 256):bits .or .u32 ((x:Int) * 256 % 4294967296) ((c:Int) % 4294967296)=((x * 256+c:Nat):Int):=by
  rw [show (c:Int) % 4294967296=(c:Int) from by omega,show (x:Int) * 256 % 4294967296=((x * 2 ^ 8:Nat):Int) from by omega,u32_or_nat _ _ (by omega) (by omega),Nat.or_comm,or_high c x 8 (by omega)]
  congr 1
  omega
end Go.Proofs.YtohachldbpejpaaGreatDoor
