/- An account's text. -/
import Derived.Test.YtohachldbpejpaaGreatDoorZoLgAfter
import Derived.Test.YtohachldbpejpaaGreatDoorZoStrOwn
set_option maxRecDepth 20000
set_option maxHeartbeats 4000000
namespace Go.Proofs.YtohachldbpejpaaGreatDoor
open Go.RowKit
set_option linter.unusedVariables false
def lvsP (ls:List (Int × Int)):List UInt8:=ls.flatMap fun p=>numB p.1 ++ numB p.2
theorem lvsP_len:∀ ls:List (Int × Int),(lvsP ls).length<=12 * ls.length:=by
  intro ls
  induction ls with
  | nil=>simp [lvsP]
  | cons p t ih =>
    have h1:=numB_len p.1
    have h2:=numB_len p.2
    simp only [lvsP,List.flatMap_cons,List.length_append,List.length_cons] at ih ⊢
    omega
theorem lvsP_snoc (ls:List (Int × Int)) (k:Nat) (h:k < ls.length):lvsP (ls.take (k+1))=lvsP (ls.take k) ++ (numB ls[k].1 ++ numB ls[k].2):=by
  rw [List.take_succ_eq_append_getElem h];simp only [lvsP,List.flatMap_append,List.flatMap_cons,List.flatMap_nil,List.append_nil]
theorem lvsP_take_len (ls:List (Int × Int)) (k:Nat):(lvsP (ls.take k)).length<=12 * ls.length:=by
  have h:=lvsP_len (ls.take k)
  have h3:(ls.take k).length<=ls.length:=by simp;omega
  omega
def acHd (nm:ByteArray) (fr no st n:Int):List UInt8:=textB nm ++ numB fr ++ numB no ++ numB st ++ numB n
theorem acHd_len (nm:ByteArray) (fr no st n:Int):(acHd nm fr no st n).length<=30+nm.size:=by
  have h0:=textB_len nm
  have h1:=numB_len fr
  have h2:=numB_len no
  have h3:=numB_len st
  have h4:=numB_len n
  simp only [acHd,List.length_append]
  omega
def acP (a:Ac):List UInt8:=acHd a.1 a.2.1 a.2.2.1 a.2.2.2.1 (a.2.2.2.2.length:Int) ++ lvsP a.2.2.2.2
theorem putG_pos (f m:Nat):0 < (putG f m).length:=by
  cases f with
  | zero=>simp [putG]
  | succ f=>rw [putG];split <;> simp
theorem numB_pos (n:Int):0 < (numB n).length:=putG_pos 5 _
theorem acHd_pos (nm:ByteArray) (fr no st n:Int) (l:List UInt8):0 < (acHd nm fr no st n ++ l).length:=by
  have h:=numB_pos n
  simp only [acHd,List.length_append]
  omega
theorem acHd_eqI (nm:ByteArray) (fr no st n:Int) (ls:List (Int × Int)):[] ++ textsB [nm] ++ numsB [fr,no,st,n]=acHd nm fr no st n ++ lvsP (ls.take 0):=by simp [acHd,lvsP,textsB,numsB]
theorem lvsP_two (l:List UInt8) (x y:Int):l ++ numsB [x,y]=l ++ (numB x ++ numB y):=by simp [numsB]
theorem rd6_one (w:World) (g:Nat) (a:ByteArray) (hg:g < w.heap.size) (h0:w.cell? ⟨g,0,none⟩=some (.string a)):RdS w (.slice (some ⟨g,0,none⟩) 1 1) [a]:=by
  refine .inr ⟨g,0,1,by simp,rfl,by simp,by unfold maxLen;omega,hg,?_⟩
  intro i hi
  simp only [List.length_cons,List.length_nil] at hi
  have:i=0:=by omega
  subst this
  exact h0
theorem rd6_nil (w:World):RdB w (.slice none 0 0) []:=.inl ⟨_,_,rfl,rfl,fun _=>rfl⟩
theorem cells_four {w:World} {g:Nat} {a b c d:Int} (h0:w.cell? ⟨g,0,none⟩=some (.int .i64 a)) (h1:w.cell? ⟨g,1,none⟩=some (.int .i64 b)) (h2:w.cell? ⟨g,2,none⟩=some (.int .i64 c)) (h3:w.cell? ⟨g,3,none⟩=some (.int .i64 d)):∀ i (h:i < [a,b,c,d].length),w.cell? ⟨g,0+i,none⟩=some (.int .i64 [a,b,c,d][i]):=by
  intro i hi
  simp only [List.length_cons,List.length_nil] at hi
  rcases (show i=0\/i=1\/i=2\/i=3 from by omega) with rfl | rfl | rfl | rfl
  · exact h0
  · exact h1
  · exact h2
  · exact h3
theorem c6_at {V:World} {xs:Array Value} {t:TypeId} {G j:Nat} {v:Value} (hG:G=V.heap.size) (hj:xs[j]?=some v):(V.alloc (.cells xs t)).cell? ⟨G,j,none⟩=some v:=by
  subst hG
  rw [World.cell?_alloc_at _ _ _ _ rfl];exact hj
theorem c6_drew {V:World} {p:Addr} {v:Value} (h:V.cell? p=some v):V.drew.cell? p=some v:=h
theorem c6_old {V:World} {o:Obj} {p:Addr} {v:Value} (h:V.cell? p=some v):(V.alloc o).cell? p=some v:=by
  rw [World.cell?_alloc_some _ _ _ (by rw [h];rfl),h]
theorem c6_bel {V U:World} {B G j:Nat} {v:Value} (hb:Below B V U) (hG:G < B) (h:V.cell? ⟨G,j,none⟩=some v):U.cell? ⟨G,j,none⟩=some v:=(hb.cell (p:=⟨G,j,none⟩) hG).trans h
theorem implText_any (a:Ac) (lv:Value) (w:World) (hr:RdL w lv a.2.2.2.2) (hn:a.1.size<=1000) (hl:a.2.2.2.2.length<=1000)
    (b1:-9223372036854775808<=a.2.1/\a.2.1<=9223372036854775807) (b2:-9223372036854775808<=a.2.2.1/\a.2.2.1<=9223372036854775807) (b3:-9223372036854775808<=a.2.2.2.1/\a.2.2.2.1<=9223372036854775807) (b4:∀ p ∈ a.2.2.2.2,(-9223372036854775808<=p.1/\p.1<=9223372036854775807)/\(-9223372036854775808<=p.2/\p.2<=9223372036854775807)) :
    Calls Tryz.prog 55 #[acV a lv] w fun en w'=>en=.returned (.string ⟨(acP a).toArray⟩)/\Below w.heap.size w w':=by
  obtain ⟨nm,fr,no,st,ls⟩:=a
  obtain ⟨av,cv,rfl⟩:=hr.shape
  simp only [acV] at *
  obtain ⟨w2,hw2⟩:∃ w2,w.alloc (.cells #[.string nm,.int .i64 fr,.int .i64 no,.int .i64 st,.slice av ls.length cv] 105)=w2:=⟨_,rfl⟩
  have HS2:Hid (w2.heap.size=w.heap.size+1):=hide (by rw [<- hw2];simp)
  have hlt2:w.heap.size < w2.heap.size:=by rw [HS2.out];omega
  have hb2:Below w.heap.size w w2:=by rw [<- hw2];exact (Below.refl _ w).alloc (Nat.le_refl _) _
  have k1:Blk w2 w.heap.size 105 [.string nm,.int .i64 fr,.int .i64 no,.int .i64 st,.slice av ls.length cv]:=by rw [<- hw2];exact Blk.new w _ _
  have HS:Hid (∀ V,Below w2.heap.size w2 V->(V.cell? ⟨w.heap.size,0,none⟩=some (.string nm)/\V.cell? ⟨w.heap.size,1,none⟩=some (.int .i64 fr)/\V.cell? ⟨w.heap.size,2,none⟩=some (.int .i64 no)/\V.cell? ⟨w.heap.size,3,none⟩=some (.int .i64 st)/\V.cell? ⟨w.heap.size,4,none⟩=some (.slice av ls.length cv))):=hide (fun V hb=>⟨(k1.below hb k1.lt).cell 0,(k1.below hb k1.lt).cell 1,(k1.below hb k1.lt).cell 2,(k1.below hb k1.lt).cell 3,(k1.below hb k1.lt).cell 4⟩)
  have bD:Below w2.heap.size w2 w2.drew:=(Below.refl _ w2).drew
  have lT:=textB_len nm
  have l1:=numB_len fr
  have l2:=numB_len no
  have l3:=numB_len st
  have l4:=numB_len (ls.length:Int)
  have bn:-9223372036854775808<=(ls.length:Int)/\(ls.length:Int)<=9223372036854775807:=by omega
  have Hb4:=hide b4
  have Hb2:=hide hb2
  have Hr:=hide hr
  have K1:=hide k1
  have hHl:=acHd_len nm fr no st (ls.length:Int)
  clear b4 hb2 hr k1
  have lN:=numsB_len [fr,no,st,(ls.length:Int)]
  have lS:=textsB_len [nm]
  have htot:tot [nm]<=10000000:=by simp [tot];omega
  have lS2:(textsB [nm]).length<=2000:=by simp [tot] at lS;omega
  have Hbd:Hid (∀ x ∈ [fr,no,st,(ls.length:Int)],-9223372036854775808<=x/\x<=9223372036854775807):=hide (by
    intro x hx
    simp only [List.mem_cons,List.not_mem_nil,or_false] at hx
    rcases hx with rfl | rfl | rfl | rfl
    · exact b1
    · exact b2
    · exact b3
    · exact bn)
  go_enter Tryz.func55,Tryz.ntmps55
  go_wp2
  clear hw2
  go_region_held_law (fun w'=>w'.cell? ⟨w.heap.size,0,none⟩=some (.string nm)/\w'.cell? ⟨w.heap.size,1,none⟩=some (.int .i64 fr)/\w'.cell? ⟨w.heap.size,2,none⟩=some (.int .i64 no)/\w'.cell? ⟨w.heap.size,3,none⟩=some (.int .i64 st)/\w'.cell? ⟨w.heap.size,4,none⟩=some (.slice av ls.length cv)) ((refine HS.out _ ?_;repeat (first | with_reducible exact bD | with_reducible exact c2 | with_reducible exact c1 | with_reducible exact Below.refl _ _ | refine Below.drew ?_ | refine Below.alloc ?_ (by first | omega | (simp;done) | (simp;omega) | (dsimp only;omega)) _))) ((first
    | (go_at_call 116;refine (putNumsL_any v1 _ [fr,no,st,(ls.length:Int)] _ 0 4 _ (o1.rd.below (by repeat (first | with_reducible exact Below.refl _ _ | refine Below.alloc ?_ (by first | omega | (simp;done) | (simp;omega) | (dsimp only;omega)) _)) (Nat.le_refl _)) (by simp only [List.nil_append];omega) (by simp) (by first | omega | (simp;done) | (simp;omega) | (dsimp only;omega)) (cells_four (by repeat (first | ((with_reducible refine c6_at ?_ ?_);(· (first | with_reducible rfl | omega | (simp;done) | (simp;omega)));(· rfl)) | with_reducible refine c6_drew ?_ | with_reducible refine c6_old ?_ | (with_reducible refine c6_bel hb1 ?_ ?_;· (first | with_reducible rfl | omega | (simp;done) | (simp;omega))) | with_reducible exact q0 | with_reducible exact q1 | with_reducible exact q2 | with_reducible exact q3 | with_reducible exact q4)) (by repeat (first | ((with_reducible refine c6_at ?_ ?_);(· (first | with_reducible rfl | omega | (simp;done) | (simp;omega)));(· rfl)) | with_reducible refine c6_drew ?_ | with_reducible refine c6_old ?_ | (with_reducible refine c6_bel hb1 ?_ ?_;· (first | with_reducible rfl | omega | (simp;done) | (simp;omega))) | with_reducible exact q0 | with_reducible exact q1 | with_reducible exact q2 | with_reducible exact q3 | with_reducible exact q4)) (by repeat (first | ((with_reducible refine c6_at ?_ ?_);(· (first | with_reducible rfl | omega | (simp;done) | (simp;omega)));(· rfl)) | with_reducible refine c6_drew ?_ | with_reducible refine c6_old ?_ | (with_reducible refine c6_bel hb1 ?_ ?_;· (first | with_reducible rfl | omega | (simp;done) | (simp;omega))) | with_reducible exact q0 | with_reducible exact q1 | with_reducible exact q2 | with_reducible exact q3 | with_reducible exact q4)) (by repeat (first | ((with_reducible refine c6_at ?_ ?_);(· (first | with_reducible rfl | omega | (simp;done) | (simp;omega)));(· rfl)) | with_reducible refine c6_drew ?_ | with_reducible refine c6_old ?_ | (with_reducible refine c6_bel hb1 ?_ ?_;· (first | with_reducible rfl | omega | (simp;done) | (simp;omega))) | with_reducible exact q0 | with_reducible exact q1 | with_reducible exact q2 | with_reducible exact q3 | with_reducible exact q4))) Hbd.out).mono ?_;rintro e u2 ⟨v2,rfl,o2,hb2⟩;have z2:=hb2.size;(try simp at z2);have c2:Below w2.heap.size w2 u2:=Below.trans (by repeat (first | with_reducible exact Below.refl _ _ | with_reducible exact bD | with_reducible exact c2 | with_reducible exact c1 | with_reducible refine Below.drew ?_ | refine Below.alloc ?_ (by first | omega | (simp;done) | (simp;omega) | (dsimp only;omega)) _)) (hb2.mono (by first | omega | (simp;done) | (simp;omega) | (dsimp only;omega))))
    | (go_at_call 117;refine (putTexts_any _ _ [] [nm] _ (rd6_nil _) (rd6_one _ _ nm (by first | omega | (simp;done) | (simp;omega) | (dsimp only;omega)) (by repeat (first | ((with_reducible refine c6_at ?_ ?_);(· (first | with_reducible rfl | omega | (simp;done) | (simp;omega)));(· rfl)) | with_reducible refine c6_drew ?_ | with_reducible refine c6_old ?_ | (with_reducible refine c6_bel hb1 ?_ ?_;· (first | with_reducible rfl | omega | (simp;done) | (simp;omega))) | with_reducible exact q0 | with_reducible exact q1 | with_reducible exact q2 | with_reducible exact q3 | with_reducible exact q4))) (by simp) (by simp) htot).mono ?_;rintro e u1 ⟨v1,rfl,o1,hb1⟩;have z1:=hb1.size;(try simp at z1);have c1:Below w2.heap.size w2 u1:=Below.trans (by repeat (first | with_reducible exact Below.refl _ _ | with_reducible exact bD | with_reducible exact c2 | with_reducible exact c1 | with_reducible refine Below.drew ?_ | refine Below.alloc ?_ (by first | omega | (simp;done) | (simp;omega) | (dsimp only;omega)) _)) (hb1.mono (by first | omega | (simp;done) | (simp;omega) | (dsimp only;omega))))))
  all_goals
    rw [acHd_eqI nm fr no st (ls.length:Int) ls] at o2
    have O5:=hide (OwnB.mono o2 (show w.heap.size<=_ from (by first | omega | (simp;done) | (simp;omega) | (dsimp only;omega))))
    have C5:=hide c2
    have d4:=(K1.out.below c2 K1.out.lt).cell 4
    simp only [List.getElem?_cons_zero,List.getElem?_cons_succ] at d4
    clear o1 o2 hb1 hb2 c1 c2 HS bD b1 b2 b3 bn
    go_wp2
    clear d4
    go_loopw [3,24] (fun bv iv wr=>∃ k:Nat,k<=ls.length/\iv=.int .i64 (k:Int)/\OwnB w.heap.size wr bv (acHd nm fr no st (ls.length:Int) ++ lvsP (ls.take k))/\Below w2.heap.size w2 wr) (fun _ iv _=>ls.length - (intOf iv).toNat)
    case atStart=>exact ⟨0,by omega,rfl,O5.out,C5.out⟩
    case round =>
      obtain ⟨k,hk,rfl,ho,hb⟩:=hrel
      have hwr:=hb.size
      by_cases hlt:k < ls.length
      · obtain ⟨b,off,rfl,hc1,hc2,hbw,e0,e1⟩:=Hr.out.at hlt
        have hB:=Hb2.out.trans (hb.mono Hb2.out.size)
        have f0:=(hB.cell (p:=⟨b,off+k * 2,none⟩) hbw).trans e0
        have f1:=(hB.cell (p:=⟨b,off+k * 2+1,none⟩) hbw).trans e1
        have hbd:=Hb4.out ls[k] (List.getElem_mem _)
        have Hsn:=hide (lvsP_snoc ls k hlt)
        have hTl:=lvsP_take_len ls k
        generalize ls[k]=x at f0 f1 e0 e1 Hsn hbd
        obtain ⟨xa,xt⟩:=x
        simp only at f0 f1 hbd Hsn
        have hli:(k:Int) < (ls.length:Int):=by omega
        obtain ⟨w8,hw8⟩:∃ w8,wr.alloc (.cells #[.int .i64 xa,.int .i64 xt] 107)=w8:=⟨_,rfl⟩
        have hb8:Below wr.heap.size wr w8:=by rw [<- hw8];exact (Below.refl _ wr).alloc (Nat.le_refl _) _
        have m8:Blk w8 wr.heap.size 107 [.int .i64 xa,.int .i64 xt]:=by rw [<- hw8];exact Blk.new wr _ _
        have x0:=m8.cell 0
        have x1:=m8.cell 1
        simp only [List.getElem?_cons_zero,List.getElem?_cons_succ] at x0 x1
        obtain ⟨w9,hw9⟩:∃ w9,w8.alloc (.cells #[.int .i64 xa,.int .i64 xt] 3)=w9:=⟨_,rfl⟩
        have hb9:Below w8.heap.size w8 w9:=by rw [<- hw9];exact (Below.refl _ w8).alloc (Nat.le_refl _) _
        have m9:Blk w9 w8.heap.size 3 [.int .i64 xa,.int .i64 xt]:=by rw [<- hw9];exact Blk.new w8 _ _
        have c9:=hb8.trans (hb9.mono hb8.size)
        have Hbd2:∀ z ∈ [xa,xt],-9223372036854775808<=z/\z<=9223372036854775807:=by
          intro z hz
          simp only [List.mem_cons,List.not_mem_nil,or_false] at hz
          rcases hz with rfl | rfl
          · exact hbd.1
          · exact hbd.2
        generalize lvsP (ls.take k)=pre at ho Hsn hTl
        generalize acHd nm fr no st (ls.length:Int)=hd at ho hHl
        have HN:=hide (putNumsL_any _ _ [xa,xt] w8.heap.size 0 2 w9 (ho.rd.below c9 (Nat.le_refl _)) (by simp only [List.length_append];omega) (by simp) m9.lt (cells_two (m9.cell 0) (m9.cell 1)) Hbd2)
        have Hc9:=hide c9
        have Hb:=hide hb
        have hs9:=c9.size
        clear O5 C5 e0 e1 ho hb m8 m9 hb8 hb9 c9
        go_wp2_with fail
        refine HN.out.mono ?_
        rintro e u7 ⟨v7,rfl,o7,hb7⟩
        rw [lvsP_two] at o7
        have O7:=hide (OwnB.mono o7 (show w.heap.size<=w9.heap.size from by omega))
        have C7:=hide (Hb.out.trans ((Hc9.out.trans (hb7.mono Hc9.out.size)).mono hwr))
        clear o7 hb7 x0 x1 f0 f1
        go_wp2
        go_roundw
        case rel=>exact ⟨k+1,by omega,by go_num,by rw [Hsn.out,<- List.append_assoc];exact O7.out,C7.out⟩
        case measure=>simp [intOf];omega
      · have ek:k=ls.length:=by omega
        subst ek
        rw [List.take_length] at ho
        have hcv:=str_own _ _ _ ho.rd (own_some ho (acHd_pos _ _ _ _ _ _))
        have HB:=hide (Hb2.out.trans (hb.mono Hb2.out.size))
        have Hac:Hid (acP (nm,fr,no,st,ls)=acHd nm fr no st (ls.length:Int) ++ lvsP ls):=hide rfl
        generalize acHd nm fr no st (ls.length:Int) ++ lvsP ls=T at ho hcv Hac
        clear ho hb O5 C5
        go_wp2
        go_ret
        exact ⟨by rw [Hac.out] <;> rfl,HB.out⟩
end Go.Proofs.YtohachldbpejpaaGreatDoor
