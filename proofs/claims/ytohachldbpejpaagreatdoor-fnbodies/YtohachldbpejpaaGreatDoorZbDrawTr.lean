/- Drawn trees. -/
import Derived.Laws.BitsAllLaws
import Derived.Test.YtohachldbpejpaaGreatDoorZbKsAdd
import Derived.Deep.CutRange
set_option maxRecDepth 20000
set_option maxHeartbeats 1000000
namespace Go.Proofs.YtohachldbpejpaaGreatDoor
open Go.RowKit
theorem i64_and_nat (a b:Nat) (ha:a < 9223372036854775808) (hb:b < 9223372036854775808):bits .and .i64 (a:Int) (b:Int)=((a &&& b:Nat):Int):=by
  have hx:a &&& b < 2 ^ 63:=Nat.and_lt_two_pow _ (by omega)
  show IntKind.i64.wrap ((BitVec.ofInt 64 (a:Int) &&& BitVec.ofInt 64 (b:Int)).toNat:Int)=_
  rw [BitVec.toNat_and,ofInt_u64 a (by omega),ofInt_u64 b (by omega),IntKind.wrap_i64]
  omega
theorem i64_or_nat (a b:Nat) (ha:a < 9223372036854775808) (hb:b < 9223372036854775808):bits .or .i64 (a:Int) (b:Int)=((a ||| b:Nat):Int):=by
  have hx:a ||| b < 2 ^ 63:=Nat.or_lt_two_pow (by omega) (by omega)
  show IntKind.i64.wrap ((BitVec.ofInt 64 (a:Int) ||| BitVec.ofInt 64 (b:Int)).toNat:Int)=_
  rw [BitVec.toNat_or,ofInt_u64 a (by omega),ofInt_u64 b (by omega),IntKind.wrap_i64]
  omega
theorem and127 (a:Nat) (ha:a < 9223372036854775808):bits .and .i64 (a:Int) 127=((a % 128:Nat):Int):=by
  have:=i64_and_nat a 127 ha (by omega)
  rw [show ((127:Nat):Int)=127 from rfl] at this
  rw [this,show (127:Nat)=2 ^ 7 - 1 from rfl,Nat.and_two_pow_sub_one_eq_mod]
theorem or_high (a c i:Nat) (h:a < 2 ^ i):a ||| c * 2 ^ i=a+c * 2 ^ i:=by
  rw [<- Nat.shiftLeft_eq,Nat.or_comm,<- Nat.shiftLeft_add_eq_or_of_lt h,Nat.add_comm]
theorem or128 (a:Nat) (ha:a < 128):bits .or .i64 (a:Int) 128=((a+128:Nat):Int):=by
  have:=i64_or_nat a 128 (by omega) (by omega)
  rw [show ((128:Nat):Int)=128 from rfl] at this
  rw [this]
  have h:=or_high a 1 7 (by omega)
  simp at h
  rw [h]
def gr:Nat->List UInt8->Nat->Nat->Option (Nat × Nat × Nat)
  | 0,_,_,_=>none
  | _+1,[],_,_=>none
  | f+1,c :: t,m,k=>if 128<=c.toNat then gr f t (m+c.toNat % 128 * 128 ^ k) (k+1) else some (m+c.toNat % 128 * 128 ^ k,k,c.toNat)
def getN (l:List UInt8) (p:Int):Int × Int × Bool :=
  if 0<=p/\p < l.length then
    match gr 5 (l.drop p.toNat) 0 0 with
    | none=>(0,0,false)
    | some (m,k,c)=>if (0 < k/\c=0)\/2000000000 < m then (0,0,false) else ((if m % 2=1 then -((m:Int) / 2) - 1 else (m:Int) / 2),p+k+1,true)
  else (0,0,false)
end Go.Proofs.YtohachldbpejpaaGreatDoor
namespace Go.Proofs.YtohachldbpejpaaGreatDoor
open Go.RowKit
set_option linter.unusedVariables false
def foldN (n:Int):Nat:=if n < 0 then (2 * min (-n) 1000000000 - 1).toNat else (2 * min n 1000000000).toNat
def putG:Nat->Nat->List UInt8
  | 0,m=>[UInt8.ofNat m]
  | f+1,m=>if m<=127 then [UInt8.ofNat m] else UInt8.ofNat (m % 128+128) :: putG f (m / 128)
def numB (n:Int):List UInt8:=putG 5 (foldN n)
theorem foldN_le (n:Int):foldN n<=2000000000:=by unfold foldN;split <;> omega
theorem putG_len:∀ (f m:Nat),(putG f m).length<=f+1:=by
  intro f
  induction f with
  | zero=>intro m;simp [putG]
  | succ f ih =>
    intro m
    rw [putG]
    split
    · simp
    · have:=ih (m / 128);simp only [List.length_cons];omega
theorem numB_len (n:Int):(numB n).length<=6:=putG_len 5 _
theorem putG_last (f m:Nat) (h:m<=127):putG f m=[UInt8.ofNat m]:=by
  cases f with
  | zero=>rfl
  | succ f=>rw [putG,if_pos h]
theorem putG_more (f m:Nat) (h:¬ m<=127):putG (f+1) m=UInt8.ofNat (m % 128+128) :: putG f (m / 128):=by rw [putG,if_neg h]
theorem byte_of (m:Nat) (h:m < 256):(m:Int)=((UInt8.ofNat m).toNat:Int):=by
  rw [UInt8.toNat_ofNat'];omega
theorem div_lt_pow (m f:Nat) (h:m < 128 ^ (f+1+1)):m / 128 < 128 ^ (f+1):=by
  rw [Nat.pow_succ] at h
  exact Nat.div_lt_of_lt_mul (by rw [Nat.mul_comm];exact h)
theorem fold_pow (M:Nat) (h:M<=2000000000):M < 128 ^ (5+1):=by
  have:(128:Nat) ^ (5+1)=4398046511104:=by decide
  omega
theorem rd_one (w:World) (x:Int) (c:UInt8) (h:x=(c.toNat:Int)):RdB (w.alloc (.cells #[.int .u8 x] 5)) (.slice (some ⟨w.heap.size,0,none⟩) 1 1) [c]:=by
  refine .inr ⟨w.heap.size,0,1,by simp,rfl,by simp,by unfold maxLen;omega,by simp,?_⟩
  intro i hi
  simp only [List.length_cons,List.length_nil] at hi
  have:i=0:=by omega
  subst this
  simp [World.cell?_alloc_at,h]
theorem own_nil (w:World) (base:Nat) (h:base<=w.heap.size):OwnB base (w.alloc (.cells #[] 5)) (.slice (some ⟨w.heap.size,0,none⟩) 0 0) [] :=
  World.ownsRow_lit w #[] 0 h (by unfold maxLen;omega) (by simp)
theorem OwnB.alloc {base:Nat} {w:World} {v:Value} {l:List UInt8} (h:OwnB base w v l) (o:Obj):OwnB base (w.alloc o) v l:=World.ownsRow.alloc h o
theorem app_own {ops:Array Oper} {rest:List Oper} {o:Oper} {a:Act} {Q:Exit->Act->World->Prop} (w:World) (hgd:o.guard=none) (s x:Operand)
    (ho:o.op=.call { callee:=.builtin .append,args:=#[s,x],argTypes:=#[22,22] })
    (base:Nat) (v vx:Value) (l k:List UInt8) (hs:a.eval s=v) (hx:a.eval x=vx) (hown:OwnB base w v l) (hrd:RdB w vx k)
    (hlen:l.length+k.length<=100000000) (hbase:base<=w.heap.size)
    (h:∀ v' w',OwnB base w' v' (l ++ k)->Below base w w'->wpList Tryz.prog ops Q rest (a.put o.dst v') w'):wpList Tryz.prog ops Q (o :: rest) a w:=by
  obtain ⟨i0,hi,hz0,hz1,hz2⟩:=info_parts Tryz.infoU8
  have hbel:∀ w',w.grownBy w' v.ownBlock->Below base w w':=fun w' hg=>(Below.refl _ _).grown hg hbase (fun k hk=>(World.ownsRow.lt hown k hk).1)
  rcases hrd with ⟨ax,cap,rfl,rfl,hnil⟩ | ⟨b,off,cap,h0,rfl,h1,h2,h3,h4⟩
  · cases ax with
    | none =>
      have hc:cap=0:=hnil rfl
      subst hc
      refine wpList_append_own_none hgd s x 22 ho base 5 i0 1 Tryz.underlying22 hi v l.length (l.map cb) hs hown hx ?_
      exact h v w (by simpa [OwnB] using hown) (Below.refl _ _)
    | some ad =>
      refine wpList_append_own w hgd s x 22 ho base 5 i0 (.int .u8 0) 1 1 Tryz.underlying22 hi hz0 hz1 hz2 rfl (by decide) v l.length (l.map cb) hs hown ad 0 cap [] hx rfl (by intro j u hj;simp at hj) (by intro u hu;simp at hu) (by unfold maxLen;simp at hlen;omega) (by simp at hlen;omega) hbase ?_
      intro v' w' ho' hg _
      exact h v' w' (by simpa [OwnB] using ho') (hbel w' hg)
  · refine wpList_append_own w hgd s x 22 ho base 5 i0 (.int .u8 0) 1 1 Tryz.underlying22 hi hz0 hz1 hz2 rfl (by decide) v l.length (l.map cb) hs hown ⟨b,off,none⟩ k.length cap (k.map cb) hx (by simp) ?_ ?_ (by unfold maxLen;omega) (by omega) hbase ?_
    · intro j u hj
      have hj':j < k.length:=by have:=(List.getElem?_eq_some_iff.1 hj).1;simpa using this
      have ea:(⟨b,off,none⟩:Addr).add j=⟨b,off+j,none⟩:=by
        by_cases hz:j=0
        · subst hz;simp [Addr.add]
        · simp [Addr.add,hz]
      rw [ea,h4 j hj']
      simp [hj',cb] at hj
      rw [<- hj]
    · intro u hu
      obtain ⟨c,_,rfl⟩:=List.mem_map.1 hu
      rfl
    · intro v' w' ho' hg _
      exact h v' w' (by simpa [OwnB] using ho') (hbel w' hg)
structure Cur (w0 w:World) (g:Nat) (cv:Value) (code:List UInt8):Prop where
  rd:RdB w0 cv code
  bel:Below w0.heap.size w0 w
  le:w0.heap.size<=g
  blk:∃ i h:Int,w.heap[g]?=some (.cells #[cv,.int .i64 i,.int .i64 h] 160 (0,0))/\0<=i/\i<=code.length/\-9223372036854775808<=h/\h<=9223372036854775807
def mulK (h:Int):Int:=wrap64 (h * 6364136223846793005)
theorem wrap64_bd (x:Int):-9223372036854775808<=wrap64 x/\wrap64 x<=9223372036854775807:=by unfold wrap64;omega
theorem and255_bd (x:Int):0<=bits .and .i64 x 255/\bits .and .i64 x 255<=255:=by
  show 0<=IntKind.i64.wrap ((BitVec.ofInt 64 x &&& BitVec.ofInt 64 255).toNat:Int)/\IntKind.i64.wrap ((BitVec.ofInt 64 x &&& BitVec.ofInt 64 255).toNat:Int)<=255
  have h:(BitVec.ofInt 64 x &&& BitVec.ofInt 64 255).toNat<=255:=by
    rw [BitVec.toNat_and]
    exact Nat.le_trans Nat.and_le_right (by decide)
  rw [IntKind.wrap_i64]
  omega
theorem cur_cells {w:World} {g:Nat} {a b c:Value} {t:TypeId} (h:w.heap[g]?=some (.cells #[a,b,c] t (0,0))) :
    w.cell? ⟨g,0,none⟩=some a/\w.cell? ⟨g,1,none⟩=some b/\w.cell? ⟨g,2,none⟩=some c/\w.frozen? ⟨g,0,none⟩=false/\w.frozen? ⟨g,1,none⟩=false/\w.frozen? ⟨g,2,none⟩=false :=
  ⟨cell_of_row w g 0 _ t (0,0) h,cell_of_row w g 1 _ t (0,0) h,cell_of_row w g 2 _ t (0,0) h,frozen_of_row w g 0 _ t h,frozen_of_row w g 1 _ t h,frozen_of_row w g 2 _ t h⟩
theorem cur_set {w:World} {g:Nat} {a b c:Value} {t:TypeId} (h:w.heap[g]?=some (.cells #[a,b,c] t (0,0))) (u:Value) :
    ((w.setCell ⟨g,2,none⟩ u).heap[g]?=some (.cells #[a,b,u] t (0,0))/\w.grownBy (w.setCell ⟨g,2,none⟩ u) (some g)) /\
    ((w.setCell ⟨g,1,none⟩ u).heap[g]?=some (.cells #[a,u,c] t (0,0))/\w.grownBy (w.setCell ⟨g,1,none⟩ u) (some g)) :=
  ⟨⟨heap_setCell_same w g 2 #[a,b,c] t u h,⟨rfl,rfl,rfl,by simp,fun k _ hk=>heap_setCell_other w ⟨g,2,none⟩ k u (fun e=>hk (by simp [e]))⟩⟩,
   ⟨heap_setCell_same w g 1 #[a,b,c] t u h,⟨rfl,rfl,rfl,by simp,fun k _ hk=>heap_setCell_other w ⟨g,1,none⟩ k u (fun e=>hk (by simp [e]))⟩⟩⟩
theorem grw_trans {a b c:World} {row:Option Nat} (h:a.grownBy b row) (k:b.grownBy c row):a.grownBy c row :=
  ⟨k.os.trans h.os,k.tape.trans h.tape,k.output.trans h.output,Nat.le_trans h.size k.size,fun i hi hr=>(k.block i (Nat.lt_of_lt_of_le hi h.size) hr).trans (h.block i hi hr)⟩
theorem grw_drewN {a b:World} {row:Option Nat} (h:a.grownBy b row) (n:Nat):a.grownBy (b.drewN n) row:=⟨h.os,h.tape,h.output,h.size,h.block⟩
theorem Cur.step {w0 w w':World} {g:Nat} {cv:Value} {code:List UInt8} (hc:Cur w0 w g cv code) (hg:w.grownBy w' (some g)) (i h:Int)
    (hb:w'.heap[g]?=some (.cells #[cv,.int .i64 i,.int .i64 h] 160 (0,0))) (h1:0<=i) (h2:i<=code.length) (h3:-9223372036854775808<=h) (h4:h<=9223372036854775807):Cur w0 w' g cv code :=
  ⟨hc.rd,hc.bel.grown hg hc.bel.size (fun k hk=>by cases hk;exact hc.le),hc.le,⟨i,h,hb,h1,h2,h3,h4⟩⟩
theorem Cur.byte {w0 w:World} {g b off cap:Nat} {code:List UInt8} (hbel:Below w0.heap.size w0 w) (hb:b < w0.heap.size) (j:Nat) {v:Value} (hc:w0.cell? ⟨b,off+j,none⟩=some v):w.cell? ⟨b,off+j,none⟩=some v:=(hbel.cell (p:=⟨b,off+j,none⟩) hb).trans hc
theorem l1Byte_any (w0 w:World) (g:Nat) (cv:Value) (code:List UInt8) (hc:Cur w0 w g cv code) (hl:code.length<=1048576) :
    Calls Tryz.prog 132 #[.pointer (some ⟨g,0,none⟩)] w fun e w'=>∃ x:Nat,e=.returned (.int .i64 (x:Int))/\x<=255/\Cur w0 w' g cv code/\w.grownBy w' (some g):=by
  obtain ⟨i,h,hb,hi0,hi1,hh0,hh1⟩:=hc.blk
  obtain ⟨c0,c1,c2,f0,f1,f2⟩:=cur_cells hb
  have Hc:=hide hc
  have Hb:=hide hb
  clear hb
  have km:∀ h:Int,wrap64 (h * 6364136223846793005)=mulK h:=fun _=>rfl
  obtain ⟨I,rfl⟩:=Int.eq_ofNat_of_zero_le hi0
  obtain ⟨av,capv,hcv⟩:=hc.rd.shape
  have Hrd:=hide hc.rd
  subst hcv
  clear hc
  go_enter Tryz.func132,Tryz.ntmps132
  go_wp2
  clear km
  generalize wrap64 (h * 6364136223846793005)=Y
  have hHb:=wrap64_bd (mulK h+1442695040888963407)
  generalize wrap64 (mulK h+1442695040888963407)=H at hHb
  obtain ⟨hH0,hH1⟩:=hHb
  have hs:=(cur_set Hb.out (.int .i64 H)).1
  generalize w.setCell ⟨g,2,none⟩ (.int .i64 H)=w1 at hs
  obtain ⟨hb1,hg1⟩:=hs
  clear c0 c1 c2 f0 f1 f2
  obtain ⟨c0,c1,c2,f0,f1,f2⟩:=cur_cells hb1
  have Hb1:=hide hb1
  have Hg1:=hide hg1
  clear hb1 hg1
  go_quiet (fail)
  go_wp2
  have hX:=and255_bd (bits BinOp.xor IntKind.i64 (H / 8589934592) (H / 140737488355328))
  generalize bits BinOp.and IntKind.i64 (bits BinOp.xor IntKind.i64 (H / 8589934592) (H / 140737488355328)) 255=X at hX
  obtain ⟨hX0,hX1⟩:=hX
  obtain ⟨x,rfl⟩:=Int.eq_ofNat_of_zero_le hX0
  have hx:x<=255:=by omega
  clear hX0 hX1
  by_cases hI:I < code.length
  · rcases Hrd.out with ⟨_,_,_,e,_⟩ | ⟨b,off,cap,h0,hv,h1,h2,h3,h4⟩
    · rw [e] at hI;simp at hI
    · cases hv
      have hc4:w1.cell? ⟨b,off+I,none⟩=some (.int .u8 (code[I].toNat:Int)):=Cur.byte (g:=g) (cap:=capv) (code:=code) (Hc.out.step Hg1.out _ _ Hb1.out (by omega) (by omega) hH0 hH1).bel h3 I (h4 I hI)
      have hcb:(code[I].toNat:Int) < 256:=by have:=code[I].toNat_lt;omega
      generalize code[I].toNat=C at hc4 hcb
      have hlt:(I:Int) < (code.length:Int):=by omega
      clear h4 h0 h1 h2 h3
      go_quiet (fail)
      go_wp2
      go_quiet (fail)
      go_wp2
      have hY:=and255_bd ((x:Int)+(C:Int))
      obtain ⟨y,hy⟩:=Int.eq_ofNat_of_zero_le hY.1
      have hs2:=(cur_set Hb1.out (.int .i64 ((I:Int)+1))).2
      go_ret
      refine ⟨y,ret_int hy,by omega,Hc.out.step (grw_trans Hg1.out (grw_drewN hs2.2 _)) ((I:Int)+1) H hs2.1 (by omega) (by omega) hH0 hH1,grw_trans Hg1.out (grw_drewN hs2.2 _)⟩
  · have hd:¬ (I:Int) < (code.length:Int):=by omega
    go_quiet (fail)
    go_wp2
    go_ret
    exact ⟨x,rfl,hx,Hc.out.step (grw_drewN Hg1.out _) _ _ Hb1.out (by omega) (by omega) hH0 hH1,grw_drewN Hg1.out _⟩
theorem Cur.below {B:Nat} {w0 w w':World} {g:Nat} {cv:Value} {code:List UInt8} (hc:Cur w0 w g cv code) (hb:Below B w w') (hg:g < B):Cur w0 w' g cv code:=by
  obtain ⟨i,h,hbk,r⟩:=hc.blk
  exact ⟨hc.rd,hc.bel.trans (hb.mono (by have:=hc.le;omega)),hc.le,⟨i,h,by rw [hb.block g hg];exact hbk,r⟩⟩
theorem Cur.lt {w0 w:World} {g:Nat} {cv:Value} {code:List UInt8} (hc:Cur w0 w g cv code):g < w.heap.size:=by
  obtain ⟨i,h,hbk,r⟩:=hc.blk
  exact (Array.getElem?_eq_some_iff.1 hbk).1
theorem grw_below {B:Nat} {a b c:World} {row:Option Nat} (h:a.grownBy b row) (k:Below B b c) (hB:a.heap.size<=B):a.grownBy c row :=
  ⟨k.os.trans h.os,k.tape.trans h.tape,k.output.trans h.output,Nat.le_trans h.size k.size,fun i hi hr=>(k.block i (by omega)).trans (h.block i hi hr)⟩
theorem grw_of_below {B:Nat} {a b:World} (row:Option Nat) (k:Below B a b) (hB:a.heap.size<=B):a.grownBy b row :=
  ⟨k.os,k.tape,k.output,k.size,fun i hi _=>k.block i (by omega)⟩
theorem l1Below_any (w0 w:World) (g:Nat) (cv:Value) (code:List UInt8) (n:Int) (hc:Cur w0 w g cv code) (hl:code.length<=1048576) (h1:-9223372036854775808<=n) (h2:n<=9223372036854775807) :
    Calls Tryz.prog 68 #[.pointer (some ⟨g,0,none⟩),.int .i64 n] w fun e w'=>∃ x:Nat,e=.returned (.int .i64 (x:Int))/\(0 < n->(x:Int) < n)/\(n<=0->x=0)/\Cur w0 w' g cv code/\w.grownBy w' (some g):=by
  have Hc:=hide hc
  clear hc
  by_cases hn:n<=0
  · go_enter Tryz.func68,Tryz.ntmps68
    go_wp2
    go_ret
    exact ⟨0,rfl,fun h=>by omega,fun _=>rfl,Hc.out,World.grownBy.refl _ _⟩
  · by_cases hn2:n<=256
    · have hn0:(n == 0)=false:=by rw [beq_eq_false_iff_ne];omega
      go_enter Tryz.func68,Tryz.ntmps68
      go_wp2_with fail
      refine (l1Byte_any _ _ _ _ _ Hc.out hl).mono ?_
      rintro e w1 ⟨x,rfl,hx,hc1,hg1⟩
      have hm:=Int.emod_nonneg (x:Int) (show n ≠ 0 from by omega)
      have hm2:=Int.emod_lt_of_pos (x:Int) (show 0 < n from by omega)
      go_wp2
      go_ret
      obtain ⟨y,hy⟩:=Int.eq_ofNat_of_zero_le hm
      exact ⟨y,ret_int hy,fun _=>by omega,fun h=>by omega,hc1,hg1⟩
    · have hn0:(n == 0)=false:=by rw [beq_eq_false_iff_ne];omega
      go_enter Tryz.func68,Tryz.ntmps68
      go_wp2_with fail
      refine (l1Byte_any _ _ _ _ _ Hc.out hl).mono ?_
      rintro e w1 ⟨x,rfl,hx,hc1,hg1⟩
      go_wp2_with fail
      refine (l1Byte_any _ _ _ _ _ hc1 hl).mono ?_
      rintro e w2 ⟨y,rfl,hy,hc2,hg2⟩
      go_wp2_with fail
      refine (l1Byte_any _ _ _ _ _ hc2 hl).mono ?_
      rintro e w3 ⟨z,rfl,hz,hc3,hg3⟩
      have hs0:0<=(x:Int) * 65536+(y:Int) * 256+(z:Int):=by omega
      have hm:=Int.emod_nonneg ((x:Int) * 65536+(y:Int) * 256+(z:Int)) (show n ≠ 0 from by omega)
      have hm2:=Int.emod_lt_of_pos ((x:Int) * 65536+(y:Int) * 256+(z:Int)) (show 0 < n from by omega)
      go_wp2
      go_ret
      obtain ⟨r,hr⟩:=Int.eq_ofNat_of_zero_le hm
      exact ⟨r,ret_int hr,fun _=>by omega,fun h=>by omega,hc3,grw_trans (grw_trans hg1 hg2) hg3⟩
def IntsAt (w:World) (b:Nat) (ns:List Int):Prop:=b < w.heap.size/\∀ j (h:j < ns.length),w.cell? ⟨b,j,none⟩=some (.int .i64 ns[j])
theorem ints_new (w:World) (ns:List Int) (t:TypeId):IntsAt (w.alloc (.cells (ns.map (Value.int .i64)).toArray t)) w.heap.size ns:=by
  refine ⟨by simp,fun j hj=>?_⟩
  rw [World.cell?_alloc_at _ _ _ _ rfl]
  simp [hj]
theorem IntsAt.grw {w w':World} {b g:Nat} {ns:List Int} (h:IntsAt w b ns) (hg:w.grownBy w' (some g)) (hne:b ≠ g):IntsAt w' b ns :=
  ⟨by have:=hg.size;have:=h.1;omega,fun j hj=>hg.cell (a:=⟨b,j,none⟩) (h.2 j hj) (by simp [hne])⟩
theorem l1Int_any (w0 w:World) (g b:Nat) (cv:Value) (code:List UInt8) (ns:List Int) (hc:Cur w0 w g cv code) (hl:code.length<=1048576) (hi:IntsAt w b ns) (hne:b ≠ g) (hn:0 < ns.length) (hn2:ns.length<=1000) (cap:Nat) :
    Calls Tryz.prog 123 #[.pointer (some ⟨g,0,none⟩),.slice (some ⟨b,0,none⟩) ns.length cap] w fun e w'=>∃ n:Int,e=.returned (.int .i64 n)/\n ∈ ns/\Cur w0 w' g cv code/\w.grownBy w' (some g):=by
  have Hc:=hide hc
  have Hi:=hide hi
  clear hc hi
  go_enter Tryz.func123,Tryz.ntmps123
  go_wp2_with fail
  refine (l1Below_any _ _ _ _ _ _ Hc.out hl (by omega) (by omega)).mono ?_
  rintro e w1 ⟨x,rfl,hx1,hx2,hc1,hg1⟩
  have hxl:x < ns.length:=by have:=hx1 (by omega);omega
  have hcell:=(Hi.out.grw hg1 hne).2 x hxl
  have hmem:=hide (List.getElem_mem hxl)
  generalize ns[x]=n at hcell hmem
  clear hx1 hx2
  go_wp2
  go_ret
  exact ⟨n,rfl,hmem.out,hc1,hg1⟩
theorem andM_bd (x:Int):0<=bits .and .i64 x 1073741823/\bits .and .i64 x 1073741823<=1073741823:=by
  show 0<=IntKind.i64.wrap ((BitVec.ofInt 64 x &&& BitVec.ofInt 64 1073741823).toNat:Int)/\IntKind.i64.wrap ((BitVec.ofInt 64 x &&& BitVec.ofInt 64 1073741823).toNat:Int)<=1073741823
  have h:(BitVec.ofInt 64 x &&& BitVec.ofInt 64 1073741823).toNat<=1073741823:=by
    rw [BitVec.toNat_and]
    exact Nat.le_trans Nat.and_le_right (by decide)
  rw [IntKind.wrap_i64]
  omega
theorem cur_new (w:World) (cv:Value) (code:List UInt8) (h:Int) (hr:RdB w cv code) (h1:-9223372036854775808<=h) (h2:h<=9223372036854775807) :
    Cur w (w.alloc (.cells #[cv,.int .i64 0,.int .i64 h] 160)) w.heap.size cv code/\Below w.heap.size w (w.alloc (.cells #[cv,.int .i64 0,.int .i64 h] 160)) :=
  ⟨⟨hr,(Below.refl _ _).alloc (Nat.le_refl _) _,Nat.le_refl _,⟨0,h,heap_alloc_new w _,by omega,by omega,h1,h2⟩⟩,(Below.refl _ _).alloc (Nat.le_refl _) _⟩
theorem l1New_any (w:World) (cv:Value) (code:List UInt8) (hr:RdB w cv code) (hl:code.length<=1048576) :
    Calls Tryz.prog 46 #[cv] w fun e w'=>e=.returned (.pointer (some ⟨w.heap.size,0,none⟩))/\Cur w w' w.heap.size cv code/\Below w.heap.size w w':=by
  have Hn:=hide (fun h h1 h2=>cur_new w cv code h hr h1 h2)
  rcases hr with ⟨a,cap,rfl,rfl,-⟩ | ⟨b,off,cap,h0,rfl,h1,h2,h3,h4⟩
  · go_enter Tryz.func46,Tryz.ntmps46
    go_wp2
    refine wp_loop_rounds 1 ?_
    rw [rounds_succ]
    go_wp2
    go_ret
    exact ⟨rfl,Hn.out _ (by omega) (by omega)⟩
  · have H4:=hide h4
    clear h4
    go_enter Tryz.func46,Tryz.ntmps46
    go_wp2
    go_loop [3,4] (fun hv iv=>∃ (k:Nat) (h:Int),k<=code.length/\iv=.int .i64 (k:Int)/\hv=.int .i64 h/\0<=h/\h<=1073741823) (fun _ iv=>code.length - (intOf iv).toNat)
    case atStart=>exact ⟨0,_,Nat.zero_le _,rfl,rfl,by omega,by omega⟩
    case round =>
      obtain ⟨k,h,hk,rfl,rfl,hh0,hh1⟩:=hrel
      by_cases hlt:k < code.length
      · by_cases h4000:k < 4000
        · have hc:=H4.out k hlt
          have hcb:(code[k].toNat:Int) < 256:=by have:=code[k].toNat_lt;omega
          generalize code[k].toNat=C at hc hcb
          have hA:=andM_bd (h * 137+(C:Int)+11)
          go_wp2
          go_round
          case rel=>exact ⟨k+1,_,by omega,by go_num,rfl,hA.1,hA.2⟩
          case measure=>simp [intOf];omega
        · go_wp2
          go_ret
          exact ⟨rfl,Hn.out _ (by omega) (by omega)⟩
      · go_wp2
        go_ret
        exact ⟨rfl,Hn.out _ (by omega) (by omega)⟩
theorem Cur.drew {w0 w:World} {g:Nat} {cv:Value} {code:List UInt8} (hc:Cur w0 w g cv code):Cur w0 w.drew g cv code:=⟨hc.rd,hc.bel.drew,hc.le,hc.blk⟩
theorem OwnS.notg {base:Nat} {w w':World} {v:Value} {l:List ByteArray} {g:Nat} (h:OwnS base w v l) (hg:w.grownBy w' (some g)) (hb:g < base):OwnS base w' v l :=
  World.ownsRow.kept h hg (by right;intro e;have:=(World.ownsRow.lt h g e).1;omega)
theorem l1Once_any (w0 w:World) (g:Nat) (cv:Value) (code:List UInt8) (n:Int) (hc:Cur w0 w g cv code) (hl:code.length<=1048576) (h1:-9223372036854775808<=n) (h2:n<=9223372036854775807) :
    Calls Tryz.prog 67 #[.pointer (some ⟨g,0,none⟩),.int .i64 n] w fun e w'=>∃ b:Bool,e=.returned (.bool b)/\Cur w0 w' g cv code/\w.grownBy w' (some g):=by
  go_enter Tryz.func67,Tryz.ntmps67
  go_wp2_with fail
  refine (l1Below_any _ _ _ _ _ _ hc hl h1 h2).mono ?_
  rintro e w1 ⟨x,rfl,hx1,_,hc1,hg1⟩
  clear hx1
  go_wp2
  go_ret
  exact ⟨_,rfl,hc1,hg1⟩
theorem rd_one_str' (w:World) (n:Nat) (s:ByteArray) (h:n=w.heap.size):RdS (w.alloc (.cells #[.string s] 9)) (.slice (some ⟨n,0,none⟩) 1 1) [s]:=by
  subst h;exact rd_one_str w s
theorem five_at (w:World) (k:Nat) (h:k < 5):∃ s:ByteArray,s.size=1/\(w.alloc (.cells #[.string ⟨#[97]⟩,.string ⟨#[98]⟩,.string ⟨#[99]⟩,.string ⟨#[100]⟩,.string ⟨#[101]⟩] 9)).cell? ⟨w.heap.size,k,none⟩=some (.string s):=by
  rw [World.cell?_alloc_at _ _ _ _ rfl]
  rcases (show k=0\/k=1\/k=2\/k=3\/k=4 from by omega) with rfl | rfl | rfl | rfl | rfl
  · exact ⟨_,rfl,rfl⟩
  · exact ⟨_,rfl,rfl⟩
  · exact ⟨_,rfl,rfl⟩
  · exact ⟨_,rfl,rfl⟩
  · exact ⟨_,rfl,rfl⟩
theorem l1Names_any (w0 w:World) (g:Nat) (cv:Value) (code:List UInt8) (hc:Cur w0 w g cv code) (hl:code.length<=1048576) :
    Calls Tryz.prog 158 #[.pointer (some ⟨g,0,none⟩)] w fun e w'=>∃ (v':Value) (ls:List ByteArray),e=.returned v'/\OwnS w.heap.size w' v' ls/\ls.length<=5/\(∀ s ∈ ls,s.size=1)/\Cur w0 w' g cv code/\w.grownBy w' (some g):=by
  have hb0:Below w.heap.size w (w.alloc (.cells #[] 9)):=(Below.refl _ _).alloc (Nat.le_refl _) _
  have Ho:=hide (own_nilS w w.heap.size (Nat.le_refl _))
  have Hc:=hide (hc.below hb0 hc.lt)
  have Hg:=hide (grw_of_below (some g) hb0 (Nat.le_refl _))
  have hgl:=hc.lt
  clear hc hb0
  go_enter Tryz.func158,Tryz.ntmps158
  go_wp2
  go_loopw [3,4] (fun bv iv wr=>∃ (k:Nat) (ls:List ByteArray),k<=5/\iv=.int .i64 (k:Int)/\OwnS w.heap.size wr bv ls/\ls.length<=k/\(∀ s ∈ ls,s.size=1)/\Cur w0 wr g cv code/\w.grownBy wr (some g)) (fun _ iv _=>5 - (intOf iv).toNat)
  case atStart=>exact ⟨0,[],Nat.zero_le _,rfl,Ho.out,by simp,by simp,Hc.out,Hg.out⟩
  case round =>
    obtain ⟨k,ls,hk,rfl,ho,hpl,hsz1,hc,hg⟩:=hrel
    have Hs1:=hide hsz1
    have hpl2:ls.length<=5:=by omega
    have Hor:=hide ho
    have Hcr:=hide hc
    have Hgr:=hide hg
    have hsz:=hg.size
    clear ho hc hg hsz1
    by_cases hlt:k < 5
    · go_wp2_with fail
      refine (l1Once_any _ _ _ _ _ _ Hcr.out hl (by omega) (by omega)).mono ?_
      rintro e w1 ⟨bb,rfl,hc1,hg1⟩
      have Ho1:=hide (Hor.out.notg hg1 hgl)
      have Hc1:=hide hc1
      have Hg1:=hide (grw_trans Hgr.out hg1)
      have hsz1:=hg1.size
      clear hc1 hg1
      cases bb
      · obtain ⟨s,hs1,hcell⟩:=five_at w1 k hlt
        have Hss:=hide hs1
        clear hs1
        go_wp2_with (at_builtin;refine app_ownS _ rfl _ _ rfl w.heap.size _ _ ls [s] rfl rfl ((Ho1.out.alloc _).alloc _) (rd_one_str' _ _ _ (by simp)) (by simp;omega) (by simp;omega) ?_;intro v2 w2 ho2 hb2)
        have hb2':Below w.heap.size w1 w2:=(((Below.refl _ _).alloc (by omega) _).alloc (by simp;omega) _).trans hb2
        have Hc2:=hide (Hc1.out.below hb2' hgl)
        have Hg2:=hide (grw_below Hg1.out hb2' (Nat.le_refl _))
        go_roundw
        case rel=>exact ⟨k+1,ls ++ [s],by omega,by go_num,ho2,by simp;omega,fun u hu=>by
                      rcases List.mem_append.1 hu with hu | hu
                      · exact Hs1.out u hu
                      · simp at hu;rw [hu];exact Hss.out,Hc2.out,Hg2.out⟩
        case measure=>simp [intOf];omega
      · go_wp2
        go_roundw
        case rel=>exact ⟨k+1,ls,by omega,by go_num,Ho1.out,by omega,Hs1.out,Hc1.out,Hg1.out⟩
        case measure=>simp [intOf];omega
    · go_wp2
      go_ret
      exact ⟨_,ls,rfl,Hor.out,by omega,Hs1.out,Hcr.out,Hgr.out⟩
def StrsAt (w:World) (b:Nat) (ss:List ByteArray):Prop:=b < w.heap.size/\∀ j (h:j < ss.length),w.cell? ⟨b,j,none⟩=some (.string ss[j])
theorem strs_new (w:World) (ss:List ByteArray) (t:TypeId):StrsAt (w.alloc (.cells (ss.map Value.string).toArray t)) w.heap.size ss:=by
  refine ⟨by simp,fun j hj=>?_⟩
  rw [World.cell?_alloc_at _ _ _ _ rfl]
  simp [hj]
theorem StrsAt.grw {w w':World} {b g:Nat} {ss:List ByteArray} (h:StrsAt w b ss) (hg:w.grownBy w' (some g)) (hne:b ≠ g):StrsAt w' b ss :=
  ⟨by have:=hg.size;have:=h.1;omega,fun j hj=>hg.cell (a:=⟨b,j,none⟩) (h.2 j hj) (by simp [hne])⟩
theorem l1Str_any (w0 w:World) (g b:Nat) (cv:Value) (code:List UInt8) (ss:List ByteArray) (hc:Cur w0 w g cv code) (hl:code.length<=1048576) (hi:StrsAt w b ss) (hne:b ≠ g) (hn:0 < ss.length) (hn2:ss.length<=1000) (cap:Nat) :
    Calls Tryz.prog 231 #[.pointer (some ⟨g,0,none⟩),.slice (some ⟨b,0,none⟩) ss.length cap] w fun e w'=>∃ s:ByteArray,e=.returned (.string s)/\s ∈ ss/\Cur w0 w' g cv code/\w.grownBy w' (some g):=by
  have Hc:=hide hc
  have Hi:=hide hi
  clear hc hi
  go_enter Tryz.func231,Tryz.ntmps231
  go_wp2_with fail
  refine (l1Below_any _ _ _ _ _ _ Hc.out hl (by omega) (by omega)).mono ?_
  rintro e w1 ⟨x,rfl,hx1,hx2,hc1,hg1⟩
  have hxl:x < ss.length:=by have:=hx1 (by omega);omega
  have hcell:=(Hi.out.grw hg1 hne).2 x hxl
  have hmem:=hide (List.getElem_mem hxl)
  generalize ss[x]=n at hcell hmem
  clear hx1 hx2
  go_wp2
  go_ret
  exact ⟨n,rfl,hmem.out,hc1,hg1⟩
def sixL:List ByteArray:=[⟨#[97]⟩,⟨#[98]⟩,⟨#[99]⟩,⟨#[100]⟩,⟨#[101]⟩,⟨#[97,49]⟩]
def oddL:List ByteArray:=[⟨#[]⟩,⟨#[65]⟩,⟨#[116,111,111,108,111,110,103,57,57]⟩,⟨#[97,32,98]⟩,⟨#[101,105,103,104,116,108,101,116]⟩]
theorem six_small:∀ s ∈ sixL,s.size<=9:=by decide
theorem l1Name_any (w0 w:World) (g:Nat) (cv:Value) (code:List UInt8) (hc:Cur w0 w g cv code) (hl:code.length<=1048576) :
    Calls Tryz.prog 203 #[.pointer (some ⟨g,0,none⟩)] w fun e w'=>∃ s:ByteArray,e=.returned (.string s)/\s.size<=9/\Cur w0 w' g cv code/\w.grownBy w' (some g):=by
  have hgl:=hc.lt
  have hb0:∀ o,Below w.heap.size w (w.alloc o):=fun o=>(Below.refl _ _).alloc (Nat.le_refl _) _
  have Hs:=hide (l1Str_any w0 _ g w.heap.size cv code sixL (hc.below (hb0 _) hgl) hl (strs_new w sixL 9) (by omega) (by decide) (by decide) 6)
  have Hg:=hide (grw_of_below (some g) (hb0 (.cells (sixL.map Value.string).toArray 9)) (Nat.le_refl _))
  clear hb0 hc
  go_enter Tryz.func203,Tryz.ntmps203
  go_wp2_with fail
  refine Hs.out.mono ?_
  rintro e w1 ⟨s,rfl,hs,hc1,hg1⟩
  have hs9:=six_small s hs
  clear hs
  go_wp2
  go_ret
  exact ⟨s,rfl,hs9,hc1,grw_trans Hg.out hg1⟩
structure DtK (b:Bk):Prop where
  few:FewK b
  tr:b.tr=0
theorem OwnKs.notg {base:Nat} {w w':World} {v:Value} {l:List Bk} {g:Nat} (h:OwnKs base w v l) (hg:w.grownBy w' (some g)) (hb:g < base):OwnKs base w' v l:=by
  obtain ⟨G,cap,Z,hZ,rfl,hr,hk⟩:=h
  have hG:=(World.ownsRow.lt hr G rfl).1
  refine ⟨G,cap,Z,hZ,rfl,World.ownsRow.kept hr hg (.inr (fun e=>?_)),⟨fun i hi=>(hk.own i hi).grown9 hg (fun e=>by have:=((hk.own i hi).in9 _ e).1;omega),hk.far,hk.inner,hk.apart⟩⟩
  simp only [Value.ownBlock,Option.some.injEq] at e
  omega
structure Rn (w0 w W:World) (g B:Nat) (cv:Value) (code:List UInt8) (b:Bk) (v:Bv):Prop where
  o:Blk W B 50 (bkC b v)
  lo:w.heap.size<=B
  own:OwnK (B+1) W b v
  cur:Cur w0 W g cv code
  grw:w.grownBy W (some g)
  gl:g < w.heap.size
theorem Rn.call {w0 w W W':World} {g B:Nat} {cv:Value} {code:List UInt8} {b:Bk} {v:Bv} (h:Rn w0 w W g B cv code b v) (hc:Cur w0 W' g cv code) (hg:W.grownBy W' (some g)):Rn w0 w W' g B cv code b v:=by
  have h1:=h.gl
  have h2:=h.lo
  exact ⟨(hg.block B h.o.lt (fun e=>by simp only [Option.some.injEq] at e;omega)).trans h.o,h2,h.own.grown9 hg (fun e=>by have:=(h.own.in9 _ e).1;omega),hc,grw_trans h.grw hg,h1⟩
theorem Rn.bel {w0 w W W':World} {g B:Nat} {cv:Value} {code:List UInt8} {b:Bk} {v:Bv} (h:Rn w0 w W g B cv code b v) (hb:Below W.heap.size W W'):Rn w0 w W' g B cv code b v :=
  h.call (h.cur.below hb h.cur.lt) (grw_of_below (some g) hb (Nat.le_refl _))
theorem Rn.put {w0 w W:World} {g B:Nat} {cv:Value} {code:List UInt8} {b b':Bk} {v v':Bv} (h:Rn w0 w W g B cv code b v) (j:Nat) (u:Value) (he:(bkC b v).set j u=bkC b' v') (ho:OwnK (B+1) W b' v'):Rn w0 w (W.setCell ⟨B,j,none⟩ u) g B cv code b' v':=by
  have h1:=h.gl
  have h2:=h.lo
  have hb:Below w.heap.size W (W.setCell ⟨B,j,none⟩ u):=(Below.refl _ W).setCell (p:=⟨B,j,none⟩) h2 u
  exact ⟨by rw [<- he];exact h.o.setC j u,h2,⟨ho.q.olderC (Nat.lt_succ_self B) j u,ho.p.olderC (Nat.lt_succ_self B) j u,ho.h.olderC (Nat.lt_succ_self B) j u,ho.t.olderC (Nat.lt_succ_self B) j u,ho.n.olderC (Nat.lt_succ_self B) j u⟩,h.cur.below hb h1,grw_below h.grw hb (Nat.le_refl _),h1⟩
theorem blk_notgR {w w':World} {B g:Nat} {t:TypeId} {cs:List Value} (h:Blk w B t cs) (hg:w.grownBy w' (some g)) (hne:B ≠ g):Blk w' B t cs:=(hg.block B h.lt (fun e=>by simp only [Option.some.injEq] at e;omega)).trans h
theorem grw_trans9 {a b c:World} {g:Nat} (h:a.grownBy b (some g)) (k:b.grownBy c (some g)):a.grownBy c (some g):=grw_trans h k
def nm3:List ByteArray:=[{ data:=#[97] },{ data:=#[98] },{ data:=#[99] }]
def bvN:Bv:=⟨.slice none 0 0,.slice none 0 0,.slice none 0 0,.slice none 0 0,.slice none 0 0⟩
theorem ad_dt {l:List Bk} {b:Bk} (h:∀ x ∈ l,DtK x) (hb:DtK b):∀ x ∈ (adS l b).1,DtK x:=by
  intro x hx
  unfold adS at hx
  split at hx
  · exact h x hx
  · split at hx
    · rcases insK_mem x hx with rfl | h2
      · exact hb
      · exact h x h2
    · exact h x hx
theorem ad_tree {l:List Bk} {b:Bk} (h:(adS l b).2=true):treeB (adS l b).1=true:=by
  unfold adS at h ⊢
  split at h
  · cases h
  · split at h
    · rename_i h1 h2
      rw [if_neg h1,if_pos h2]
      exact h2
    · cases h
theorem ad_len (l:List Bk) (b:Bk):(adS l b).1.length<=l.length+1:=by
  unfold adS
  split
  · simp
  · split
    · rw [insK_len];exact Nat.le_refl _
    · simp
theorem tree_nil:treeB []=true:=by decide
end Go.Proofs.YtohachldbpejpaaGreatDoor
