/- Append onto numbers of the call's own. -/
import Derived.Test.YtohachldbpejpaaGreatDoorZoShaBe
import Derived.Test.YtohachldbpejpaaGreatDoorZoPadSpec
import Derived.Deep.MidRow
import Derived.Laws.PanicsMore
import Derived.Deep.RegionLaw
namespace Go.Proofs.YtohachldbpejpaaGreatDoor
open Go.RowKit
set_option linter.unusedVariables false
def blk (P:List UInt8) (t:Nat):List UInt8:=(P.drop (64 * t)).take 64
def shaFold (P:List UInt8):Nat->S8
  | 0=>hC
  | t+1=>blockS (shaFold P t) (wordsB (blk P t))
theorem shaFold_lt (P:List UInt8):∀ t,(shaFold P t).Lt
  | 0=>hC_lt
  | t+1=>blockS_lt _ _
theorem blk_len (P:List UInt8) (t:Nat) (h:64 * t+64<=P.length):(blk P t).length=64:=by simp [blk];omega
theorem blk_at (P:List UInt8) (t i:Nat) (h:64 * t+64<=P.length) (hi:i < (blk P t).length):(blk P t)[i]=P[64 * t+i]'(by rw [blk_len P t h] at hi;omega):=by
  simp [blk]
def padQ (n:Nat):Nat:=(n+72) / 64
theorem padB_q (l:List UInt8):(padB l).length=64 * padQ l.length:=by
  have:(padB l).length=l.length+1+padZ l.length+8:=by simp [padB,be8_len];omega
  rw [this];unfold padZ padQ;omega
def uv (n:Nat):Value:=.int .u32 (n:Int)
def Ar (w:World) (g:Nat) (l:List Nat):Prop:=∀ j (h:j < l.length),w.cell? ⟨g,j,none⟩=some (.int .u32 (l[j]:Int))/\w.frozen? ⟨g,j,none⟩=false
theorem Ar.there {w:World} {g:Nat} {l:List Nat} (h:Ar w g l):w.there g 0 l.length:=by
  intro j hj
  rw [show 0+j=j from by omega,(h j hj).1]
  exact ⟨rfl,(h j hj).2⟩
theorem Ar.below {B:Nat} {w w':World} {g:Nat} {l:List Nat} (h:Ar w g l) (hb:Below B w w') (hg:g < B):Ar w' g l:=by
  intro j hj
  exact ⟨(hb.cell (p:=⟨g,j,none⟩) hg).trans (h j hj).1,(hb.frozen (p:=⟨g,j,none⟩) hg).trans (h j hj).2⟩
theorem Ar.sm {w w':World} {g:Nat} {l:List Nat} (h:Ar w g l) (hb:Sm w w'):Ar w' g l:=h.below (hb (g+1)) (Nat.lt_succ_self _)
theorem Ar.alloc {w:World} {g:Nat} {l:List Nat} (h:Ar w g l) (hg:g < w.heap.size) (o:Obj):Ar (w.alloc o) g l:=h.below ((Below.refl _ _).alloc (Nat.le_refl _) o) hg
theorem Ar.new (w:World) (g:Nat) (l:List Nat) (t:TypeId) (a:Array Value) (ha:a=(l.map uv).toArray) (hg:g=w.heap.size):Ar (w.alloc (.cells a t)) g l:=by
  subst ha;subst hg
  intro j hj
  constructor
  · rw [World.cell?_alloc_at _ _ _ _ rfl]
    simp [hj,uv]
  · simp [World.frozen?_alloc_new]
theorem Ar.set {w:World} {g:Nat} {l:List Nat} (h:Ar w g l) (k x:Nat) (hk:k < l.length):Ar (w.setCell ⟨g,k,none⟩ (.int .u32 (x:Int))) g (l.set k x):=by
  intro j hj
  rw [List.length_set] at hj
  refine ⟨?_,by rw [World.frozen?_setCell];exact (h j hj).2⟩
  by_cases e:k=j
  · subst e
    rw [World.cell?_setCell_same _ _ _ (h k hj).1]
    simp
  · rw [World.cell?_setCell_other _ _ _ _ (by intro q;injection q with _ q2;exact e q2),(h j hj).1]
    simp [e]
theorem Ar.setOther {w:World} {g:Nat} {l:List Nat} (h:Ar w g l) (p:Addr) (v:Value) (hp:p.block ≠ g):Ar (w.setCell p v) g l:=by
  intro j hj
  refine ⟨?_,by rw [World.frozen?_setCell];exact (h j hj).2⟩
  rw [World.cell?_setCell_other _ _ _ _ (by intro e;subst e;exact hp rfl),(h j hj).1]
theorem Ar.sets {w:World} {g:Nat} {l:List Nat} (h:Ar w g l) (l':List Nat) (hl:l'.length=l.length):Ar (w.setCells g 0 (l'.map uv)) g l':=by
  intro j hj
  have h1:=World.rangeAt_setCells_same w g 0 (l'.map uv) (by rw [List.length_map,hl];exact h.there) j (uv l'[j]) (by simp [hj])
  rw [show 0+j=j from by omega] at h1
  exact ⟨h1,by rw [World.frozen?_setCells];exact (h j (by omega)).2⟩
theorem Ar.setsOther {w:World} {g:Nat} {l:List Nat} (h:Ar w g l) (b o:Nat) (vs:List Value) (hb:g ≠ b):Ar (w.setCells b o vs) g l:=by
  intro j hj
  refine ⟨?_,by rw [World.frozen?_setCells];exact (h j hj).2⟩
  rw [World.cell?_setCells_out b vs o w ⟨g,j,none⟩ (fun e=>absurd e hb),(h j hj).1]
theorem rangeAt_below {B:Nat} {w w':World} {g:Nat} {cs:List Value} (h:w.rangeAt g 0 cs) (hb:Below B w w') (hg:g < B):w'.rangeAt g 0 cs:=fun j v hv =>
  (hb.cell (p:=⟨g,0+j,none⟩) hg).trans (h j v hv)
theorem below_setCells {B:Nat} {w w':World} (h:Below B w w') (g:Nat) (hg:B<=g):∀ (vs:List Value) (o:Nat),Below B w (w'.setCells g o vs):=by
  intro vs
  induction vs generalizing w' with
  | nil=>intro o;exact h
  | cons v r ih=>intro o;exact ih (h.setCell (p:=⟨g,o,none⟩) hg v) _
theorem run_index_array (P:Program) (w:World) (t e:TypeId) (n:Nat) (cs:Array Value) (k:IntKind) (i:Nat) (hi:i < n) (h:P.underlying t=some (.array n e)) (hsz:∀ w,(sizeOf e).run P w=.ok 1 w) (hag:∀ w,(isAgg e).run P w=.ok false w) (v:Value) (hv:cs[i]?=some v) :
    (Instr.index t (.agg cs) (.int k (i:Int))).run P w=.ok v w:=by
  have hn:(0:Int)<=(i:Int)/\(i:Int) < (n:Int):=by omega
  simp [Instr.index,run_underlying h,asIntOf,hn,go_sem,hi,hsz,hag,hv]
def be4 (x:Nat):List UInt8:=[UInt8.ofNat (x / 16777216 % 256),UInt8.ofNat (x / 65536 % 256),UInt8.ofNat (x / 256 % 256),UInt8.ofNat (x % 256)]
def bytesS (s:S8):List UInt8:=s.list.flatMap be4
theorem bytesS_len (s:S8):(bytesS s).length=32:=rfl
theorem flat_snoc (l:List Nat) (k:Nat) (h:k < l.length):(l.take (k+1)).flatMap be4=(l.take k).flatMap be4 ++ be4 l[k]:=by
  rw [List.take_succ_eq_append_getElem h,List.flatMap_append]
  simp only [List.flatMap_cons,List.flatMap_nil,List.append_nil]
theorem flatB_len (l:List Nat):(l.flatMap be4).length=4 * l.length:=by
  induction l with
  | nil=>rfl
  | cons c t ih=>simp only [List.flatMap_cons,List.length_append,List.length_cons,ih,be4,List.length_nil];omega
theorem byte_at (x d:Nat):(x:Int) / (d:Int) % 256=((UInt8.ofNat (x / d % 256)).toNat:Int):=by
  rw [UInt8.toNat_ofNat',Nat.mod_eq_of_lt (by omega)]
  simp
theorem byte_at1 (x:Nat):(x:Int) % 256=((UInt8.ofNat (x % 256)).toNat:Int):=by
  rw [UInt8.toNat_ofNat',Nat.mod_eq_of_lt (by omega)]
  simp
def Ab (w:World) (g:Nat) (l:List UInt8):Prop:=g < w.heap.size/\∀ i (h:i < l.length),w.cell? ⟨g,i,none⟩=some (.int .u8 (l[i].toNat:Int))
theorem Ab.below {B:Nat} {w w':World} {g:Nat} {l:List UInt8} (h:Ab w g l) (hb:Below B w w') (hB:w.heap.size<=B):Ab w' g l :=
  ⟨by have:=hb.size;have:=h.1;omega,fun i hi=>(hb.cell (p:=⟨g,i,none⟩) (by have:=h.1;show g < B;omega)).trans (h.2 i hi)⟩
theorem Ab.setsOther {w:World} {g:Nat} {l:List UInt8} (h:Ab w g l) (b o:Nat) (vs:List Value) (hb:g ≠ b):Ab (w.setCells b o vs) g l :=
  ⟨by have:=(below_setCells (Below.refl 0 w) b (Nat.zero_le _) vs o).size;have:=h.1;omega,fun i hi=>(World.cell?_setCells_out b vs o w ⟨g,i,none⟩ (fun e=>absurd e hb)).trans (h.2 i hi)⟩
theorem OwnB.ab {base:Nat} {w:World} {v:Value} {l:List UInt8} {g n cap B:Nat} (h:OwnB base w v l) (hv:v=.slice (some ⟨g,0,none⟩) n cap) (hB:B<=base) (hn:0 < l.length):Ab w g l/\B<=g/\cap<=maxLen:=by
  rcases h.2 with ⟨hv',h0⟩ | ⟨g',cap',cur,hv',hb,hg,hnc,hcm,hcs,ht⟩
  · omega
  · have e:=hv.symm.trans hv'
    simp only [Value.slice.injEq,Option.some.injEq,Addr.mk.injEq,and_true] at e
    obtain ⟨rfl,rfl,rfl⟩:=e
    subst hv
    exact ⟨⟨(Array.getElem?_eq_some_iff.1 hg).1,fun i hi=>by
      rw [World.ownsRow.cellAt h i (by simpa using hi)]
      simp [hi,cb]⟩,by omega,hcm⟩
def dig (l:List UInt8):List UInt8:=bytesS (shaFold (padB l) (padQ l.length))
theorem dig_len (l:List UInt8):(dig l).length=32:=bytesS_len _
def leafB (s:ByteArray):ByteArray:=⟨(dig (0 :: s.data.toList)).toArray⟩
def nodeB (a b:ByteArray):ByteArray:=⟨(dig (1 :: a.data.toList ++ b.data.toList)).toArray⟩
def noneM:ByteArray:=⟨(dig []).toArray⟩
theorem leafB_size (s:ByteArray):(leafB s).size=32:=by show (dig _).toArray.size=32;simp [dig_len]
theorem nodeB_size (a b:ByteArray):(nodeB a b).size=32:=by show (dig _).toArray.size=32;simp [dig_len]
theorem noneM_size:noneM.size=32:=by show (dig _).toArray.size=32;simp [dig_len]
def half (n:Nat):Nat:=2 ^ (n - 1).log2
theorem half_lt (n:Nat) (h:2<=n):0 < half n/\half n < n/\n<=2 * half n:=by
  have h1:=Nat.log2_self_le (n:=n - 1) (by omega)
  have h2:=Nat.lt_log2_self (n:=n - 1)
  unfold half
  rw [Nat.pow_succ] at h2
  exact ⟨Nat.two_pow_pos _,by omega,by omega⟩
def leafOf:List ByteArray->ByteArray
  | []=>noneM
  | s :: _=>leafB s
def rootF:Nat->List ByteArray->ByteArray
  | 0,_=>noneM
  | f+1,l=>if l.length < 2 then leafOf l else nodeB (rootF f (l.take (half l.length))) (rootF f (l.drop (half l.length)))
theorem rootF_fuel:∀ (f g:Nat) (l:List ByteArray),l.length<=f->l.length<=g->rootF f l=rootF g l
  | 0,g,l,hf,hg=>by
    have h0:l=[]:=List.length_eq_zero_iff.1 (by omega)
    subst h0
    cases g with
    | zero=>rfl
    | succ g=>simp [rootF,leafOf]
  | f + 1,g,l,hf,hg=>by
    by_cases h:l.length < 2
    · cases g with
      | zero =>
        have h0:l=[]:=List.length_eq_zero_iff.1 (by omega)
        subst h0
        simp [rootF,leafOf]
      | succ g=>rw [rootF,rootF,if_pos h,if_pos h]
    · have hh:=half_lt l.length (by omega)
      obtain ⟨k,rfl⟩:∃ k,g=k+1:=⟨g - 1,by omega⟩
      rw [rootF,rootF,if_neg h,if_neg h,rootF_fuel f k (l.take (half l.length)) (by simp;omega) (by simp;omega),rootF_fuel f k (l.drop (half l.length)) (by simp;omega) (by simp;omega)]
def rootM (l:List ByteArray):ByteArray:=rootF l.length l
theorem rootM_nil:rootM []=noneM:=rfl
theorem rootM_one (s:ByteArray):rootM [s]=leafB s:=rfl
theorem rootM_more (l:List ByteArray) (h:2<=l.length):rootM l=nodeB (rootM (l.take (half l.length))) (rootM (l.drop (half l.length))):=by
  have hh:=half_lt l.length h
  unfold rootM
  rw [rootF_fuel (l.take (half l.length)).length (l.length - 1) _ (Nat.le_refl _) (by simp;omega),rootF_fuel (l.drop (half l.length)).length (l.length - 1) _ (Nat.le_refl _) (by simp;omega)]
  obtain ⟨k,hk⟩:∃ k,l.length=k+1:=⟨l.length - 1,by omega⟩
  rw [show l.length - 1=k from by omega]
  conv=>lhs;rw [hk]
  rw [rootF,if_neg (by omega)]
theorem rootM_size (l:List ByteArray):(rootM l).size=32:=by
  by_cases h:l.length < 2
  · match l,h with
    | [],_=>rw [rootM_nil];exact noneM_size
    | [s],_=>rw [rootM_one];exact leafB_size s
  · rw [rootM_more l (by omega)];exact nodeB_size _ _
def pathF:Nat->List ByteArray->Nat->List ByteArray
  | 0,_,_=>[]
  | f+1,l,i=>if l.length < 2 then [] else if i < half l.length then pathF f (l.take (half l.length)) i ++ [rootM (l.drop (half l.length))] else pathF f (l.drop (half l.length)) (i - half l.length) ++ [rootM (l.take (half l.length))]
def pathB (l:List ByteArray) (i:Nat):List ByteArray:=pathF l.length l i
def upF:Nat->ByteArray->Nat->Nat->List ByteArray->ByteArray × Bool
  | 0,leaf,_,_,path=>(leaf,path.isEmpty)
  | f+1,leaf,i,n,path=>if n < 2 then (leaf,path.isEmpty) else (match path.getLast? with
    | none=>(ByteArray.empty,false)
    | some x=>if i < half n then (nodeB (upF f leaf i (half n) path.dropLast).1 x,(upF f leaf i (half n) path.dropLast).2) else (nodeB x (upF f leaf (i - half n) (n - half n) path.dropLast).1,(upF f leaf (i - half n) (n - half n) path.dropLast).2))
def upB (leaf:ByteArray) (i n:Nat) (path:List ByteArray):ByteArray × Bool:=upF n leaf i n path
def pathOfB (l:List ByteArray) (i:Int):List ByteArray:=if l.length<=64/\0<=i/\i < l.length then pathB l i.toNat else []
def checkB (s:ByteArray) (i n:Int) (path:List ByteArray) (root:ByteArray):Bool :=
  decide (1<=n/\n<=64/\0<=i/\i<=n - 1) && ((upB (leafB s) i.toNat n.toNat path).2 && decide ((upB (leafB s) i.toNat n.toNat path).1=root))
def iv (n:Nat):Value:=.int .i64 (n:Int)
def An (w:World) (g:Nat) (l:List Nat):Prop:=g < w.heap.size/\∀ i (h:i < l.length),w.cell? ⟨g,i,none⟩=some (.int .i64 (l[i]:Int))
def OwnN (base:Nat) (w:World) (v:Value) (l:List Nat):Prop:=w.ownsRow base 3 1 v l.length (l.map iv)
end Go.Proofs.YtohachldbpejpaaGreatDoor
