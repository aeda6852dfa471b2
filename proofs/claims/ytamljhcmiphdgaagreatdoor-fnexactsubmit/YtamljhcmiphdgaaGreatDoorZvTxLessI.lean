/- The landed code's order of orders. -/
import Derived.Test.YtamljhcmiphdgaaGreatDoorZvPlPure
import Derived.Deep.RegionHeldLaw
set_option maxRecDepth 20000
set_option maxHeartbeats 4000000
namespace Go.Proofs.YtamljhcmiphdgaaGreatDoor
open Go.RowKit
set_option linter.unusedVariables false
def cmpI (x y:Int):Int:=if x < y then -1 else if y < x then 1 else 0
def cmpS (x y:ByteArray):Int:=if Op.bytesLess x.toList y.toList=true then -1 else if x=y then 0 else 1
def orL:List Int->Int
 | []=>0
 | x :: t=>if x=0 then orL t else x
theorem dN_ (x y:Int):decide (cmpI x y < 0)=decide (x < y):=by
 unfold cmpI
 by_cases h:x < y
 ·simp [h]
 ·rw [if_neg h];split <;> simp [h]
theorem aD_ (x y:Int):cmpI x y=0 ↔ x=y:=by
 unfold cmpI
 by_cases h:x < y
 ·rw [if_pos h];omega
 ·rw [if_neg h]
  by_cases h':y < x
  ·rw [if_pos h'];omega
  ·rw [if_neg h'];omega
theorem jR_ (s:ByteArray):Op.bytesLess s.toList s.toList=false:=by
 cases h:Op.bytesLess s.toList s.toList
 ·rfl
 ·rw [bn_ s s h] at h;cases h
theorem hh_ (x y:ByteArray):decide (cmpS x y < 0)=Op.bytesLess x.toList y.toList:=by
 unfold cmpS
 cases h:Op.bytesLess x.toList y.toList
 ·simp only [Bool.false_eq_true,if_false];split <;> simp
 ·simp
theorem cd_ (x y:ByteArray):cmpS x y=0 ↔ x=y:=by
 constructor
 ·intro h
  by_cases e:x=y
  ·exact e
  ·unfold cmpS at h
   rw [if_neg e] at h
   cases h1:Op.bytesLess x.toList y.toList
   ·rw [h1] at h;simp at h
   ·rw [h1] at h;simp at h
 ·intro e
  subst e
  unfold cmpS
  rw [jR_,if_pos rfl];rfl
theorem dw_ {x:Int} {t:List Int} (h:x=0):orL (x :: t)=orL t:=if_pos h
theorem do_ {x:Int} {t:List Int} (h:x ≠ 0):orL (x :: t)=x:=if_neg h
theorem jN_ (k1 k2 m1 m2 n1 n2:Int) (f1 f2 t1 t2:ByteArray):lessT (k1,f1,t1,m1,n1) (k2,f2,t2,m2,n2)=decide (orL [cmpS f1 f2,cmpI n1 n2,cmpI k1 k2,cmpS t1 t2,cmpI m1 m2] < 0):=by
 simp only [lessT]
 by_cases h1:f1=f2
 ·rw [if_neg (by simp [h1]),dw_ ((cd_ _ _).2 h1)]
  by_cases h2:n1=n2
  ·rw [if_neg (by simp [h2]),dw_ ((aD_ _ _).2 h2)]
   by_cases h3:k1=k2
   ·rw [if_neg (by simp [h3]),dw_ ((aD_ _ _).2 h3)]
    by_cases h4:t1=t2
    ·rw [if_neg (by simp [h4]),dw_ ((cd_ _ _).2 h4)]
     by_cases h5:m1=m2
     ·rw [dw_ ((aD_ _ _).2 h5)];simp [h5,orL]
     ·rw [do_ (fun h=>h5 ((aD_ _ _).1 h)),dN_]
    ·rw [if_pos h4,do_ (fun h=>h4 ((cd_ _ _).1 h)),hh_]
   ·rw [if_pos h3,do_ (fun h=>h3 ((aD_ _ _).1 h)),dN_]
  ·rw [if_pos h2,do_ (fun h=>h2 ((aD_ _ _).1 h)),dN_]
 ·rw [if_pos h1,do_ (fun h=>h1 ((cd_ _ _).1 h)),hh_]
theorem cA_ (x:ByteArray) (w:World):Calls Tryz.prog 184 #[.string x] w fun e w'=>e=.returned (.bool false)/\w'=w:=by
 go_enter Tryz.func184,Tryz.ntmps184
 go_wp2
 go_ret
 exact ⟨by simp,rfl⟩
theorem cF_ (x:Int) (w:World):Calls Tryz.prog 185 #[.int .i64 x] w fun e w'=>e=.returned (.bool false)/\w'=w:=by
 go_enter Tryz.func185,Tryz.ntmps185
 go_wp2
 go_ret
 exact ⟨by simp,rfl⟩
theorem jP_ (x y:ByteArray) (w:World):Calls Tryz.prog 167 #[.string x,.string y] w fun e w'=>e=.returned (.int .i64 (cmpS x y))/\w'=w:=by
 have Hd:Hid (cmpS x y=if Op.bytesLess x.toList y.toList=true then -1 else if x=y then 0 else 1):=a_ rfl
 generalize cmpS x y=X at Hd
 cases h1:Op.bytesLess x.toList y.toList
 ·rw [h1] at Hd
  simp only [Bool.false_eq_true,if_false] at Hd
  by_cases h2:x=y
  ·rw [if_pos h2] at Hd
   subst h2
   go_enter Tryz.func167,Tryz.ntmps167
   go_wp2_with (go_at_call 184;refine (cA_ _ _).mono ?_;rintro e w ⟨rfl,rfl⟩)
   go_ret
   exact ⟨h_ Hd.out.symm,rfl⟩
  ·rw [if_neg h2] at Hd
   have hq:=A_ h2
   clear h2
   go_enter Tryz.func167,Tryz.ntmps167
   go_wp2_with (go_at_call 184;refine (cA_ _ _).mono ?_;rintro e w ⟨rfl,rfl⟩)
   go_ret
   exact ⟨h_ Hd.out.symm,rfl⟩
 ·rw [h1] at Hd
  simp only [if_true] at Hd
  go_enter Tryz.func167,Tryz.ntmps167
  go_wp2_with (go_at_call 184;refine (cA_ _ _).mono ?_;rintro e w ⟨rfl,rfl⟩)
  go_ret
  exact ⟨h_ Hd.out.symm,rfl⟩
theorem ka_ (x y:Int) (w:World):Calls Tryz.prog 168 #[.int .i64 x,.int .i64 y] w fun e w'=>e=.returned (.int .i64 (cmpI x y))/\w'=w:=by
 have Hd:Hid (cmpI x y=if x < y then -1 else if y < x then 1 else 0):=a_ rfl
 generalize cmpI x y=X at Hd
 by_cases h1:x < y
 ·rw [if_pos h1] at Hd
  go_enter Tryz.func168,Tryz.ntmps168
  go_wp2_with (go_at_call 185;refine (cF_ _ _).mono ?_;rintro e w ⟨rfl,rfl⟩)
  go_ret
  exact ⟨h_ Hd.out.symm,rfl⟩
 ·rw [if_neg h1] at Hd
  by_cases h2:y < x
  ·rw [if_pos h2] at Hd
   go_enter Tryz.func168,Tryz.ntmps168
   go_wp2_with (go_at_call 185;refine (cF_ _ _).mono ?_;rintro e w ⟨rfl,rfl⟩)
   go_ret
   exact ⟨h_ Hd.out.symm,rfl⟩
  ·rw [if_neg h2] at Hd
   go_enter Tryz.func168,Tryz.ntmps168
   go_wp2_with (go_at_call 185;refine (cF_ _ _).mono ?_;rintro e w ⟨rfl,rfl⟩)
   go_ret
   exact ⟨h_ Hd.out.symm,rfl⟩
theorem kF_ (ns:List Int) (g off cap:Nat) (w:World) (hc:∀ i (h:i < ns.length),w.cell? ⟨g,off+i,none⟩=some (.int .i64 ns[i])) (hn:ns.length<=1000) :
  Calls Tryz.prog 166 #[.slice (some ⟨g,off,none⟩) ns.length cap] w fun e w'=>e=.returned (.int .i64 (orL ns))/\w'=w:=by
 have Hc:=a_ hc
 clear hc
 go_enter Tryz.func166,Tryz.ntmps166
 go_wp2
 go_loopw [8] (fun iv wr=>∃ k:Nat,k<=ns.length/\iv=.int .i64 (k:Int)/\orL ns=orL (ns.drop k)/\wr=w) (fun iv _=>ns.length - (intOf iv).toNat)
 case atStart=>exact ⟨0,by omega,rfl,rfl,rfl⟩
 case round =>
  obtain ⟨k,hk,rfl,ho,rfl⟩:=hrel
  by_cases hlt:k < ns.length
  ·have hcr:=Hc.out k hlt
   have he:orL (ns.drop k)=if ns[k]=0 then orL (ns.drop (k+1)) else ns[k]:=by
    rw [List.drop_eq_getElem_cons hlt];rfl
   rw [he] at ho
   have Ho:=a_ ho
   clear ho he
   generalize ns[k]=x at hcr Ho
   by_cases hx:x=0
   ·rw [if_pos hx] at Ho
    subst hx
    go_wp2
    go_roundw
    case rel=>exact ⟨k+1,by omega,by go_num,Ho.out,by first | rfl | trivial⟩
    case measure=>simp [intOf];omega
   ·rw [if_neg hx] at Ho
    have hq:(x != 0)=true:=by rw [bne_iff_ne];exact hx
    clear hx
    go_wp2
    go_ret
    exact ⟨h_ Ho.out.symm,rfl⟩
  ·have Hz:Hid (orL ns=0):=a_ (by rw [ho,List.drop_eq_nil_of_le (by omega)];rfl)
   clear ho
   go_wp2
   go_ret
   exact ⟨h_ Hz.out.symm,rfl⟩
theorem hn_ {w:World} {g:Nat} {a b c d e:Int} (h0:w.cell? ⟨g,0,none⟩=some (.int .i64 a)) (h1:w.cell? ⟨g,1,none⟩=some (.int .i64 b)) (h2:w.cell? ⟨g,2,none⟩=some (.int .i64 c)) (h3:w.cell? ⟨g,3,none⟩=some (.int .i64 d)) (h4:w.cell? ⟨g,4,none⟩=some (.int .i64 e)) :
  ∀ i (h:i < [a,b,c,d,e].length),w.cell? ⟨g,0+i,none⟩=some (.int .i64 [a,b,c,d,e][i]):=by
 intro i hi
 simp only [List.length_cons,List.length_nil] at hi
 rcases (show i=0\/i=1\/i=2\/i=3\/i=4 from by omega) with rfl | rfl | rfl | rfl | rfl
 ·exact h0
 ·exact h1
 ·exact h2
 ·exact h3
 ·exact h4
theorem aw_ (w:World) (cs:Array Value) (j:Nat) {t:TypeId} {v:Value} (h:cs[j]?=some v):(w.alloc (.cells cs t)).drew.cell? ⟨w.heap.size,j,none⟩=some v:=by
 show (w.alloc (.cells cs t)).cell? ⟨w.heap.size,j,none⟩=some v
 rw [World.cell?_alloc_at _ _ _ _ rfl];exact h
theorem keep10 {W W':World} {n:Nat} {c0 c1 c2 c3 c4 c5 c6 c7 c8 c9:Value} (h:W.cell? ⟨n,0,none⟩=some c0/\W.cell? ⟨n,1,none⟩=some c1/\W.cell? ⟨n,2,none⟩=some c2/\W.cell? ⟨n,3,none⟩=some c3/\W.cell? ⟨n,4,none⟩=some c4/\W.cell? ⟨n+1,0,none⟩=some c5/\W.cell? ⟨n+1,1,none⟩=some c6/\W.cell? ⟨n+1,2,none⟩=some c7/\W.cell? ⟨n+1,3,none⟩=some c8/\W.cell? ⟨n+1,4,none⟩=some c9) (hb:Below (n+2) W W') :
  W'.cell? ⟨n,0,none⟩=some c0/\W'.cell? ⟨n,1,none⟩=some c1/\W'.cell? ⟨n,2,none⟩=some c2/\W'.cell? ⟨n,3,none⟩=some c3/\W'.cell? ⟨n,4,none⟩=some c4/\W'.cell? ⟨n+1,0,none⟩=some c5/\W'.cell? ⟨n+1,1,none⟩=some c6/\W'.cell? ⟨n+1,2,none⟩=some c7/\W'.cell? ⟨n+1,3,none⟩=some c8/\W'.cell? ⟨n+1,4,none⟩=some c9:=by
 obtain ⟨h0,h1,h2,h3,h4,h5,h6,h7,h8,h9⟩:=h
 exact ⟨(hb.cell (p:=⟨n,0,none⟩) (by show n < n+2;omega)).trans h0,(hb.cell (p:=⟨n,1,none⟩) (by show n < n+2;omega)).trans h1,(hb.cell (p:=⟨n,2,none⟩) (by show n < n+2;omega)).trans h2,(hb.cell (p:=⟨n,3,none⟩) (by show n < n+2;omega)).trans h3,(hb.cell (p:=⟨n,4,none⟩) (by show n < n+2;omega)).trans h4,(hb.cell (p:=⟨n+1,0,none⟩) (by show n+1 < n+2;omega)).trans h5,(hb.cell (p:=⟨n+1,1,none⟩) (by show n+1 < n+2;omega)).trans h6,(hb.cell (p:=⟨n+1,2,none⟩) (by show n+1 < n+2;omega)).trans h7,(hb.cell (p:=⟨n+1,3,none⟩) (by show n+1 < n+2;omega)).trans h8,(hb.cell (p:=⟨n+1,4,none⟩) (by show n+1 < n+2;omega)).trans h9⟩
theorem ke_ (w:World) (g:Nat) (a b c d e:Int) (t:TypeId) (hg:g=w.heap.size) :
  Calls Tryz.prog 166 #[.slice (some ⟨g,0,none⟩) 5 5] (w.alloc (.cells #[.int .i64 a,.int .i64 b,.int .i64 c,.int .i64 d,.int .i64 e] t)).drew fun e' w'=>e'=.returned (.int .i64 (orL [a,b,c,d,e]))/\w'=(w.alloc (.cells #[.int .i64 a,.int .i64 b,.int .i64 c,.int .i64 d,.int .i64 e] t)).drew:=by
 subst hg
 exact kF_ [a,b,c,d,e] w.heap.size 0 5 _ (hn_ (aw_ w _ 0 rfl) (aw_ w _ 1 rfl) (aw_ w _ 2 rfl) (aw_ w _ 3 rfl) (aw_ w _ 4 rfl)) (by simp)
theorem ba_ (a b:Tx5) (w:World):Calls Tryz.prog 139 #[txV a,txV b] w fun e w'=>e=.returned (.bool (lessT a b))/\Below w.heap.size w w':=by
 obtain ⟨k1,f1,t1,m1,n1⟩:=a
 obtain ⟨k2,f2,t2,m2,n2⟩:=b
 simp only [txV]
 have Hl:=a_ (jN_ k1 k2 m1 m2 n1 n2 f1 f2 t1 t2)
 generalize lessT (k1,f1,t1,m1,n1) (k2,f2,t2,m2,n2)=X at Hl
 obtain ⟨w0,hw0⟩:∃ w0,(w.alloc (.cells #[.int .i64 k1,.string f1,.string t1,.int .i64 m1,.int .i64 n1] 59)).alloc (.cells #[.int .i64 k2,.string f2,.string t2,.int .i64 m2,.int .i64 n2] 59)=w0:=⟨_,rfl⟩
 have HB:Hid (Below w.heap.size w w0):=a_ (by rw [<- hw0];exact ((br_ _ w).alloc (nr_ _) _).alloc (by simp) _)
 have hs0:w0.heap.size=w.heap.size+2:=by rw [<- hw0];simp
 have hS0:w0.drew.cell? ⟨w.heap.size,0,none⟩=some (.int .i64 k1)/\w0.drew.cell? ⟨w.heap.size,1,none⟩=some (.string f1)/\w0.drew.cell? ⟨w.heap.size,2,none⟩=some (.string t1)/\w0.drew.cell? ⟨w.heap.size,3,none⟩=some (.int .i64 m1)/\w0.drew.cell? ⟨w.heap.size,4,none⟩=some (.int .i64 n1) /\
   w0.drew.cell? ⟨w.heap.size+1,0,none⟩=some (.int .i64 k2)/\w0.drew.cell? ⟨w.heap.size+1,1,none⟩=some (.string f2)/\w0.drew.cell? ⟨w.heap.size+1,2,none⟩=some (.string t2)/\w0.drew.cell? ⟨w.heap.size+1,3,none⟩=some (.int .i64 m2)/\w0.drew.cell? ⟨w.heap.size+1,4,none⟩=some (.int .i64 n2):=by
  have K1:Blk w0 w.heap.size 59 [.int .i64 k1,.string f1,.string t1,.int .i64 m1,.int .i64 n1]:=by
   rw [<- hw0]
   exact (Blk.new w 59 _).below ((br_ (w.heap.size+1) _).alloc (by simp) _) (by omega)
  have K2:Blk w0 (w.heap.size+1) 59 [.int .i64 k2,.string f2,.string t2,.int .i64 m2,.int .i64 n2]:=by
   rw [<- hw0]
   have h:=Blk.new (w.alloc (.cells #[.int .i64 k1,.string f1,.string t1,.int .i64 m1,.int .i64 n1] 59)) 59 [.int .i64 k2,.string f2,.string t2,.int .i64 m2,.int .i64 n2]
   rw [World.size_alloc] at h
   exact h
  exact ⟨K1.cell 0,K1.cell 1,K1.cell 2,K1.cell 3,K1.cell 4,K2.cell 0,K2.cell 1,K2.cell 2,K2.cell 3,K2.cell 4⟩
 have hs2:w.heap.size+2<=w0.drew.heap.size:=by show _<=w0.heap.size;omega
 go_enter Tryz.func139,Tryz.ntmps139
 go_wp2
 go_region_held_law (fun w'=>w'.cell? ⟨w.heap.size,0,none⟩=some (.int .i64 k1)/\w'.cell? ⟨w.heap.size,1,none⟩=some (.string f1)/\w'.cell? ⟨w.heap.size,2,none⟩=some (.string t1)/\w'.cell? ⟨w.heap.size,3,none⟩=some (.int .i64 m1)/\w'.cell? ⟨w.heap.size,4,none⟩=some (.int .i64 n1) /\
   w'.cell? ⟨w.heap.size+1,0,none⟩=some (.int .i64 k2)/\w'.cell? ⟨w.heap.size+1,1,none⟩=some (.string f2)/\w'.cell? ⟨w.heap.size+1,2,none⟩=some (.string t2)/\w'.cell? ⟨w.heap.size+1,3,none⟩=some (.int .i64 m2)/\w'.cell? ⟨w.heap.size+1,4,none⟩=some (.int .i64 n2)) (first | exact hS0 | exact keep10 hS0 (((br_ (w.heap.size+2) w0.drew).alloc hs2 _))) (first
  | (go_at_call 167;refine (jP_ _ _ _).mono ?_;rintro e w1 ⟨rfl,rfl⟩)
  | (go_at_call 168;refine (ka_ _ _ _).mono ?_;rintro e w1 ⟨rfl,rfl⟩)
  | (go_at_call 166;refine (ke_ _ _ _ _ _ _ _ _ hs0.symm).mono ?_;rintro e w1 ⟨rfl,rfl⟩))
 go_wp2
 go_ret
 exact ⟨b_ Hl.out.symm,(HB.out.alloc (by omega) _).drew⟩
end Go.Proofs.YtamljhcmiphdgaaGreatDoor
