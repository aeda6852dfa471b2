/- Plain facts on the bytes of a number, and the law of append over bytes of the call's own. -/
import Derived.Test.YtohachldbpejpaaGreatDoorRows
import Derived.WalkKit
import Derived.ProofKit
import Derived.WalkSpells
import Derived.WalkLawsBesides
import Derived.Outline
import Derived.Deep.QuietTactic
import Derived.BigQuiet
import Derived.OpenShut
import Derived.Laws.BitsAllLaws
import Derived.Laws.AppendOwnNone
set_option maxRecDepth 20000
namespace Go.Proofs.YtohachldbpejpaaGreatDoor
open Go.RowKit
set_option linter.unusedVariables false
theorem hide {p:Prop} (h:p):Hid p:=h
theorem ret_bool {a b:Bool} (h:a=b):Ending.returned (.bool a)=.returned (.bool b):=by rw [h]
theorem ret_int {k:IntKind} {a b:Int} (h:a=b):Ending.returned (.int k a)=.returned (.int k b):=by rw [h]
def cb (c:UInt8):Value:=.int .u8 (c.toNat:Int)
def RdB (w:World) (v:Value) (l:List UInt8):Prop :=
  (∃ a cap,v=.slice a 0 cap/\l=[]/\(a=none->cap=0)) \/
  ∃ b off cap,l ≠ []/\v=.slice (some ⟨b,off,none⟩) l.length cap/\l.length<=cap/\cap<=maxLen/\b < w.heap.size/\∀ i (h:i < l.length),w.cell? ⟨b,off+i,none⟩=some (.int .u8 (l[i].toNat:Int))
def OwnB (base:Nat) (w:World) (v:Value) (l:List UInt8):Prop:=w.ownsRow base 5 1 v l.length (l.map cb)
theorem OwnB.rd {base:Nat} {w:World} {v:Value} {l:List UInt8} (h:OwnB base w v l):RdB w v l:=by
  rcases h.2 with ⟨hv,hn⟩ | ⟨g,cap,cur,hv,hb,hg,hnc,hcm,hcs,ht⟩
  · exact .inl ⟨none,0,hv,List.length_eq_zero_iff.1 hn,fun _=>rfl⟩
  · by_cases hl:l=[]
    · subst hl;exact .inl ⟨_,_,hv,rfl,fun h=>by cases h⟩
    · refine .inr ⟨g,0,cap,hl,hv,hnc,hcm,?_,?_⟩
      · exact (Array.getElem?_eq_some_iff.1 hg).1
      · intro i hi
        have h':w.ownsRow base 5 1 (.slice (some ⟨g,0,none⟩) l.length cap) l.length (l.map cb):=hv ▸ h
        rw [show 0+i=i from by omega,h'.cellAt i (by omega)]
        simp [hi,cb]
theorem RdB.below {B:Nat} {w w':World} {v:Value} {l:List UInt8} (h:RdB w v l) (hb:Below B w w') (hB:w.heap.size<=B):RdB w' v l:=by
  rcases h with h | ⟨b,off,cap,h0,hv,h1,h2,h3,h4⟩
  · exact .inl h
  · exact .inr ⟨b,off,cap,h0,hv,h1,h2,by have:=hb.size;omega,fun i hi=>(hb.cell (p:=⟨b,off+i,none⟩) (by show b < B;omega)).trans (h4 i hi)⟩
theorem OwnB.mono {base base':Nat} {w:World} {v:Value} {l:List UInt8} (h:OwnB base w v l) (hB:base'<=base):OwnB base' w v l:=by
  refine ⟨h.1,?_⟩
  rcases h.2 with h' | ⟨g,cap,cur,hv,hbb,r⟩
  · exact .inl h'
  · exact .inr ⟨g,cap,cur,hv,by omega,r⟩
theorem Tryz.infoU8:(Tryz.prog.info? 5).map (fun i=>(i.zero,i.size,i.bytes))=some (some (.int .u8 0),1,1):=by kernel_rfl
def Sm (w w':World):Prop:=∀ B,Below B w w'
theorem Sm.refl (w:World):Sm w w:=fun B=>Below.refl B w
theorem Sm.drew {a b:World} (h:Sm a b):Sm a b.drew:=fun B=>(h B).drew
theorem Sm.drewN {a b:World} (h:Sm a b) (n:Nat):Sm a (b.drewN n):=fun B=>below_drewN (h B) n
theorem Sm.cell {a b:World} (h:Sm a b) (p:Addr):b.cell? p=a.cell? p:=(h (p.block+1)).cell (by omega)
theorem RdB.shape {w:World} {v:Value} {l:List UInt8} (h:RdB w v l):∃ a cap,v=.slice a l.length cap:=by
  rcases h with ⟨a,cap,rfl,rfl,-⟩ | ⟨b,off,cap,h0,rfl,_⟩
  · exact ⟨a,cap,rfl⟩
  · exact ⟨_,cap,rfl⟩
def IsRow (k:IntKind) (w:World) (a:Option Addr) (len cap:Nat) (zs:List Int):Prop :=
  (a=none/\len=0/\cap=0/\zs=[]) \/
  ∃ x,a=some x/\len<=cap/\cap<=maxLen/\zs.length=cap/\(∀ i,i < zs.length->w.cell? (x.add i)=some (.int k (zs.getD i 0)))/\∀ n ∈ zs,(Lit.int k n).wf=true
theorem wf_u8 {z:Int} (h:(Lit.int .u8 z).wf=true):0<=z/\z<=255:=bounds_u8 h
theorem IsRow.rd {w:World} {a:Option Addr} {len cap:Nat} {zs:List Int} (h:IsRow .u8 w a len cap zs):∃ l:List UInt8,len=l.length/\RdB w (.slice a len cap) l:=by
  rcases h with ⟨rfl,rfl,rfl,rfl⟩ | ⟨x,rfl,hlc,hm,hz,hcell,hwf⟩
  · exact ⟨[],rfl,.inl ⟨_,_,rfl,rfl,fun h=>by first | rfl | cases h⟩⟩
  · by_cases h0:len=0
    · subst h0;exact ⟨[],rfl,.inl ⟨_,_,rfl,rfl,fun h=>by first | rfl | cases h⟩⟩
    · obtain ⟨b,off,spot⟩:=x
      have hc0:=hcell 0 (by omega)
      have hspot:spot=none:=by simpa [Addr.add] using World.cell?_spot hc0
      subst hspot
      have hlen:((zs.take len).map (fun z=>UInt8.ofNat z.toNat)).length=len:=by simp;omega
      refine ⟨(zs.take len).map (fun z=>UInt8.ofNat z.toNat),hlen.symm,.inr ⟨b,off,cap,?_,by rw [hlen],by omega,hm,?_,?_⟩⟩
      · intro e;rw [e] at hlen;simp at hlen;omega
      · have:=World.block_lt_of_cell? w _ hc0;simpa [Addr.add] using this
      · intro i hi
        rw [hlen] at hi
        have hi':i < zs.length:=by omega
        have hc:=hcell i hi'
        have hb:=wf_u8 (hwf zs[i] (List.getElem_mem hi'))
        have hg:zs.getD i 0=zs[i]:=by simp [hi']
        rw [hg] at hc
        have hv:((((zs.take len).map (fun z=>UInt8.ofNat z.toNat))[i]'(by rw [hlen];exact hi)).toNat:Int)=zs[i]:=by
          simp only [List.getElem_map,List.getElem_take,UInt8.toNat_ofNat']
          omega
        rw [hv]
        have ea:(⟨b,off,none⟩:Addr).add i=⟨b,off+i,none⟩:=by
          by_cases hz:i=0
          · subst hz;simp [Addr.add]
          · simp [Addr.add,hz]
        rwa [ea] at hc
theorem big_any (v:Value) (l:List UInt8) (w:World) (hr:RdB w v l) (hl:l.length<=9223372036854775807) :
    Calls Tryz.prog 8 #[v] w fun e w'=>e=.returned (.bool (decide (1048576 < l.length)))/\w'=w:=by
  obtain ⟨a,cap,rfl⟩:=hr.shape
  clear hr
  by_cases h:1048576 < l.length
  · have hd:=hide (decide_eq_true h)
    go_enter Tryz.func8,Tryz.ntmps8
    go_wp2
    go_ret
    exact ⟨ret_bool (by rw [hd.out];simp;omega),rfl⟩
  · have hd:=hide (decide_eq_false h)
    go_enter Tryz.func8,Tryz.ntmps8
    go_wp2
    go_ret
    exact ⟨ret_bool (by rw [hd.out];simp;omega),rfl⟩
theorem OwnB.shape {base:Nat} {w:World} {v:Value} {l:List UInt8} (h:OwnB base w v l) (hl:l ≠ []):∃ g cap,v=.slice (some ⟨g,0,none⟩) l.length cap/\l.length<=cap/\cap<=9223372036854775807:=by
  rcases h.2 with ⟨hv,hn⟩ | ⟨g,cap,cur,hv,hb,hg,hnc,hcm,hcs,ht⟩
  · exact absurd (List.length_eq_zero_iff.1 hn) hl
  · exact ⟨g,cap,hv,hnc,by unfold maxLen at hcm;omega⟩
end Go.Proofs.YtohachldbpejpaaGreatDoor
namespace Go.Proofs.YtohachldbpejpaaGreatDoor
open Go.RowKit
theorem or_high (a c i:Nat) (h:a < 2 ^ i):a ||| c * 2 ^ i=a+c * 2 ^ i:=by
  rw [<- Nat.shiftLeft_eq,Nat.or_comm,<- Nat.shiftLeft_add_eq_or_of_lt h,Nat.add_comm]
def gr:Nat->List UInt8->Nat->Nat->Option (Nat × Nat × Nat)
  | 0,_,_,_=>none
  | _+1,[],_,_=>none
  | f+1,c :: t,m,k=>if 128<=c.toNat then gr f t (m+c.toNat % 128 * 128 ^ k) (k+1) else some (m+c.toNat % 128 * 128 ^ k,k,c.toNat)
def getN (l:List UInt8) (p:Int):Int × Int × Bool :=
  if 0<=p/\p < l.length then
    match gr 5 (l.drop p.toNat) 0 0 with
    | none=>(0,0,false)
    | some (m,k,c)=>if (0 < k/\c=0)\/2000000000 < m then (0,0,false) else ((if m % 2=1 then -((m:Int) / 2) - 1 else (m:Int) / 2),p+k+1,true)
  else (0,0,false)
end Go.Proofs.YtohachldbpejpaaGreatDoor
namespace Go.Proofs.YtohachldbpejpaaGreatDoor
open Go.RowKit
set_option linter.unusedVariables false
def foldN (n:Int):Nat:=if n < 0 then (2 * min (-n) 1000000000 - 1).toNat else (2 * min n 1000000000).toNat
def putG:Nat->Nat->List UInt8
  | 0,m=>[UInt8.ofNat m]
  | f+1,m=>if m<=127 then [UInt8.ofNat m] else UInt8.ofNat (m % 128+128) :: putG f (m / 128)
def numB (n:Int):List UInt8:=putG 5 (foldN n)
theorem foldN_le (n:Int):foldN n<=2000000000:=by unfold foldN;split <;> omega
theorem putG_len:∀ (f m:Nat),(putG f m).length<=f+1:=by
  intro f
  induction f with
  | zero=>intro m;simp [putG]
  | succ f ih =>
    intro m
    rw [putG]
    split
    · simp
    · have:=ih (m / 128);simp only [List.length_cons];omega
theorem numB_len (n:Int):(numB n).length<=6:=putG_len 5 _
theorem putG_last (f m:Nat) (h:m<=127):putG f m=[UInt8.ofNat m]:=by
  cases f with
  | zero=>rfl
  | succ f=>rw [putG,if_pos h]
theorem putG_more (f m:Nat) (h:¬ m<=127):putG (f+1) m=UInt8.ofNat (m % 128+128) :: putG f (m / 128):=by rw [putG,if_neg h]
theorem byte_of (m:Nat) (h:m < 256):(m:Int)=((UInt8.ofNat m).toNat:Int):=by
  rw [UInt8.toNat_ofNat'];omega
theorem div_lt_pow (m f:Nat) (h:m < 128 ^ (f+1+1)):m / 128 < 128 ^ (f+1):=by
  rw [Nat.pow_succ] at h
  exact Nat.div_lt_of_lt_mul (by rw [Nat.mul_comm];exact h)
theorem fold_pow (M:Nat) (h:M<=2000000000):M < 128 ^ (5+1):=by
  have:(128:Nat) ^ (5+1)=4398046511104:=by decide
  omega
theorem rd_one (w:World) (x:Int) (c:UInt8) (h:x=(c.toNat:Int)):RdB (w.alloc (.cells #[.int .u8 x] 5)) (.slice (some ⟨w.heap.size,0,none⟩) 1 1) [c]:=by
  refine .inr ⟨w.heap.size,0,1,by simp,rfl,by simp,by unfold maxLen;omega,by simp,?_⟩
  intro i hi
  simp only [List.length_cons,List.length_nil] at hi
  have:i=0:=by omega
  subst this
  simp [World.cell?_alloc_at,h]
theorem own_nil (w:World) (base:Nat) (h:base<=w.heap.size):OwnB base (w.alloc (.cells #[] 5)) (.slice (some ⟨w.heap.size,0,none⟩) 0 0) [] :=
  World.ownsRow_lit w #[] 0 h (by unfold maxLen;omega) (by simp)
theorem OwnB.alloc {base:Nat} {w:World} {v:Value} {l:List UInt8} (h:OwnB base w v l) (o:Obj):OwnB base (w.alloc o) v l:=World.ownsRow.alloc h o
theorem app_own {ops:Array Oper} {rest:List Oper} {o:Oper} {a:Act} {Q:Exit->Act->World->Prop} (w:World) (hgd:o.guard=none) (s x:Operand)
    (ho:o.op=.call { callee:=.builtin .append,args:=#[s,x],argTypes:=#[22,22] })
    (base:Nat) (v vx:Value) (l k:List UInt8) (hs:a.eval s=v) (hx:a.eval x=vx) (hown:OwnB base w v l) (hrd:RdB w vx k)
    (hlen:l.length+k.length<=100000000) (hbase:base<=w.heap.size)
    (h:∀ v' w',OwnB base w' v' (l ++ k)->Below base w w'->wpList Tryz.prog ops Q rest (a.put o.dst v') w'):wpList Tryz.prog ops Q (o :: rest) a w:=by
  obtain ⟨i0,hi,hz0,hz1,hz2⟩:=info_parts Tryz.infoU8
  have hbel:∀ w',w.grownBy w' v.ownBlock->Below base w w':=fun w' hg=>(Below.refl _ _).grown hg hbase (fun k hk=>(World.ownsRow.lt hown k hk).1)
  rcases hrd with ⟨ax,cap,rfl,rfl,hnil⟩ | ⟨b,off,cap,h0,rfl,h1,h2,h3,h4⟩
  · cases ax with
    | none =>
      have hc:cap=0:=hnil rfl
      subst hc
      refine wpList_append_own_none hgd s x 22 ho base 5 i0 1 Tryz.underlying22 hi v l.length (l.map cb) hs hown hx ?_
      exact h v w (by simpa [OwnB] using hown) (Below.refl _ _)
    | some ad =>
      refine wpList_append_own w hgd s x 22 ho base 5 i0 (.int .u8 0) 1 1 Tryz.underlying22 hi hz0 hz1 hz2 rfl (by decide) v l.length (l.map cb) hs hown ad 0 cap [] hx rfl (by intro j u hj;simp at hj) (by intro u hu;simp at hu) (by unfold maxLen;simp at hlen;omega) (by simp at hlen;omega) hbase ?_
      intro v' w' ho' hg _
      exact h v' w' (by simpa [OwnB] using ho') (hbel w' hg)
  · refine wpList_append_own w hgd s x 22 ho base 5 i0 (.int .u8 0) 1 1 Tryz.underlying22 hi hz0 hz1 hz2 rfl (by decide) v l.length (l.map cb) hs hown ⟨b,off,none⟩ k.length cap (k.map cb) hx (by simp) ?_ ?_ (by unfold maxLen;omega) (by omega) hbase ?_
    · intro j u hj
      have hj':j < k.length:=by have:=(List.getElem?_eq_some_iff.1 hj).1;simpa using this
      have ea:(⟨b,off,none⟩:Addr).add j=⟨b,off+j,none⟩:=by
        by_cases hz:j=0
        · subst hz;simp [Addr.add]
        · simp [Addr.add,hz]
      rw [ea,h4 j hj']
      simp [hj',cb] at hj
      rw [<- hj]
    · intro u hu
      obtain ⟨c,_,rfl⟩:=List.mem_map.1 hu
      rfl
    · intro v' w' ho' hg _
      exact h v' w' (by simpa [OwnB] using ho') (hbel w' hg)
end Go.Proofs.YtohachldbpejpaaGreatDoor
