/- The book of accounts that ascend: the landed code's bookOf. The landed code's contracts of chapter 4: what is within, what leaves, an account. -/
import Derived.Test.YtohachldbpejpaaGreatDoorZmAcList
import Derived.Deep.RegionHeldLaw
import Derived.Test.YtohachldbpejpaaGreatDoorZmAcCopy
namespace Go.Proofs.YtohachldbpejpaaGreatDoor
open Go.RowKit Go.Maps
set_option linter.unusedVariables false
theorem insZ_last (q:Ac × Value):∀ Z:List (Ac × Value),(∀ x ∈ Z,Lt x.1.1 q.1.1)->insZ q Z=Z ++ [q]
  | [],_=>rfl
  | x :: t,h=>by rw [insZ_lt (h x List.mem_cons_self),insZ_last q t (fun y hy=>h y (List.mem_cons_of_mem _ hy))];rfl
theorem asc_take {l:List Ac} (ha:AscA l) {k:Nat} (hk:k < l.length) {Z:List (Ac × Value)} (hZ:Z.map (·.1)=l.take k):Asc Z/\∀ x ∈ Z,Lt x.1.1 l[k].1:=by
  refine ⟨(asc_map Z).2 (by rw [hZ];exact List.Pairwise.sublist (List.take_sublist _ _) ha),fun x hx=>?_⟩
  have hm:x.1 ∈ l.take k:=by rw [<- hZ];exact List.mem_map_of_mem hx
  obtain ⟨j,hj,e⟩:=List.mem_iff_getElem.1 hm
  simp at hj
  rw [<- e,List.getElem_take]
  exact List.pairwise_iff_getElem.1 ha j k (by omega) hk (by omega)
theorem turned_below {w w':World} {b B:Nat} (h:w.mapTurned w' b) (hB:B<=b) (hs:B<=w.heap.size):Below B w w':=(Below.refl _ _).grown h.grown hs (fun j hj=>by cases hj;exact hB)
theorem turned_cell {w w':World} {b:Nat} (h:w.mapTurned w' b) {p:Addr} (hp:p.block ≠ b) (hl:p.block < w.heap.size):w'.cell? p=w.cell? p:=by
  have:=h.grown.block p.block hl (fun e=>hp (by injection e))
  simp only [World.cell?,this]
theorem run_makeN (n:Int) (w:World):(Instr.makeMap 283 (some (.int .i64 n))).run Tryz.prog w=.ok (.map (some w.heap.size)) (w.alloc (.map #[] 0)):=by
  simp [Instr.makeMap,run_underlying Tryz.underlying283,asInt,asIntOf,Result.andThen]
set_option maxRecDepth 20000 in
set_option maxHeartbeats 1000000 in
theorem bookOf_any (v:Value) (l:List Ac) (w:World) (hr:RdA w v l) (ha:AscA l) (hl:l.length<=4000000) (hall:∀ a ∈ l,a.1.size<=maxLen/\a.2.2.2.2.length<=4000000) :
    Calls Tryz.prog 205 #[v] w fun e w'=>∃ Z:List (Ac × Value),e=.returned (.map (some w.heap.size))/\Z.map (·.1)=l/\w'.ownsMap Tryz.prog 9 RV w.heap.size l.length (bookD Z)/\Lvs (w.heap.size+1) w' w.heap.size Z/\Below w.heap.size w w':=by
  have hmm:=run_makeN
  have hB0:Hid (Below w.heap.size w (w.alloc (.map #[] 0))):=hide ((Below.refl _ w).alloc (Nat.le_refl _) _)
  have hm0:Hid ((w.alloc (.map #[] 0)).ownsMap Tryz.prog 9 RV w.heap.size 0 (bookD [])):=hide (World.ownsMap_made _ _ _ _)
  rcases hr with ⟨a,cap,rfl,rfl,-⟩ | ⟨b,off,cap,h0,rfl,h1,h2,h3,h4⟩
  · go_enter Tryz.func205,Tryz.ntmps205
    go_wp2
    refine wp_loop_rounds 1 ?_
    rw [rounds_succ]
    go_wp2
    go_ret
    exact ⟨[],rfl,rfl,hm0.out,Lvs.nil _ _ _,hB0.out⟩
  · have H4:=hide h4
    have Hall:=hide hall
    have Ha:=hide ha
    clear h4 hall ha
    go_enter Tryz.func205,Tryz.ntmps205
    go_wp2
    go_loopw [11] (fun iv wr=>∃ (k:Nat) (Z:List (Ac × Value)),k<=l.length/\iv=.int .i64 k/\Z.map (·.1)=l.take k/\wr.ownsMap Tryz.prog 9 RV w.heap.size k (bookD Z)/\Lvs (w.heap.size+1) wr w.heap.size Z/\Below w.heap.size w wr) (fun iv _=>l.length - (intOf iv).toNat)
    case atStart=>exact ⟨0,[],Nat.zero_le _,rfl,rfl,hm0.out,Lvs.nil _ _ _,hB0.out⟩
    case round =>
      obtain ⟨k,Z,hk,rfl,hZ,ho,hlv,hb⟩:=hrel
      clear hm0 hB0
      by_cases hlt:k < l.length
      · obtain ⟨lv,hat,hrl⟩:=H4.out k hlt
        obtain ⟨c0,c1,c2,c3,c4⟩:=hat.below hb h3
        have hli:(k:Int) < (l.length:Int):=by omega
        have hbb:b < wr.heap.size:=Nat.lt_of_lt_of_le h3 hb.size
        have hwl:w.heap.size < wr.heap.size:=ho.lt
        have hshape:=hrl.shape
        have Hrl:=hide (hrl.below hb (Nat.le_refl _))
        have hls:=Hall.out l[k] (List.getElem_mem _)
        have HZ2:Hid (∀ lv':Value,(Z ++ [(l[k],lv')]).map (·.1)=l.take (k+1)):=hide (fun lv'=>by rw [List.map_append,hZ,List.take_succ_eq_append_getElem hlt];rfl)
        have Hasc:=hide (asc_take Ha.out hlt hZ)
        have Ho:=hide ho
        have Hlv:=hide hlv
        clear hat hrl ho hlv hZ
        generalize l[k]=ak at c0 c1 c2 c3 hshape Hrl hls HZ2 Hasc
        obtain ⟨nm,fr,no,st,ls⟩:=ak
        obtain ⟨av,cv,rfl⟩:=hshape
        simp only at c0 c1 c2 c3 Hrl hls
        obtain ⟨w1,hw1⟩:∃ w1,wr.alloc (.cells #[.string nm,.int .i64 fr,.int .i64 no,.int .i64 st,.slice av ls.length cv] 105)=w1:=⟨_,rfl⟩
        have hA:Below wr.heap.size wr w1.drew:=by rw [<- hw1];exact ((Below.refl _ wr).alloc (Nat.le_refl _) _).drew
        have hk1:Blk w1.drew wr.heap.size 105 [.string nm,.int .i64 fr,.int .i64 no,.int .i64 st,.slice av ls.length cv]:=by rw [<- hw1];exact Blk.new wr _ _
        have HC:=hide (implCopied_any (nm,fr,no,st,ls) (.slice av ls.length cv) w1.drew (Hrl.out.below hA (Nat.le_refl _)) hls.2)
        simp only [acV] at HC
        have Hstore:Hid (∀ (w2:World) (av':Option Addr) (cv':Nat),Below w1.drew.heap.size w1.drew w2->∃ w3,(Instr.mapUpdate 283 (.map (some w.heap.size)) (.string nm) (.agg #[.string nm,.int .i64 fr,.int .i64 no,.int .i64 st,.slice av' ls.length cv'])).run Tryz.prog w2=.ok () w3/\w3.ownsMap Tryz.prog 9 RV w.heap.size (k+1) (bookD (Z ++ [((nm,fr,no,st,ls),.slice av' ls.length cv')]))/\w2.mapTurned w3 w.heap.size):=hide (fun w2 av' cv' hb2=>by
          have ho2:=book_below Ho.out (hA.trans (hb2.mono hA.size)) hwl
          obtain ⟨w3,e1,e2,e3⟩:=ho2.store key_law Tryz.underlying283 (by unfold maxLen;omega) (val:=acV (nm,fr,no,st,ls) (.slice av' ls.length cv')) (key_of nm hls.1) rfl
          refine ⟨w3,e1,?_,e3⟩
          have:=put_book Z Hasc.out.1 ((nm,fr,no,st,ls),.slice av' ls.length cv')
          rw [this,insZ_last _ Z Hasc.out.2] at e2
          exact e2)
        have e0:=hk1.cell 0
        have e1:=hk1.cell 1
        have e2:=hk1.cell 2
        have e3:=hk1.cell 3
        have e4:=hk1.cell 4
        simp only [List.getElem?_cons_zero,List.getElem?_cons_succ] at e0 e1 e2 e3 e4
        have hS1:w1.drew.cell? ⟨wr.heap.size,0,none⟩=some (.string nm)/\w1.drew.cell? ⟨wr.heap.size,1,none⟩=some (.int .i64 fr)/\w1.drew.cell? ⟨wr.heap.size,2,none⟩=some (.int .i64 no)/\w1.drew.cell? ⟨wr.heap.size,3,none⟩=some (.int .i64 st)/\w1.drew.cell? ⟨wr.heap.size,4,none⟩=some (.slice av ls.length cv):=⟨e0,e1,e2,e3,e4⟩
        have hlt1:wr.heap.size < w1.drew.heap.size:=hk1.lt
        clear e0 e1 e2 e3 e4 hk1
        go_wp2
        clear c0 c1 c2 c3 c4
        go_region_held_law (fun w'=>w'.cell? ⟨wr.heap.size,0,none⟩=some (.string nm)/\w'.cell? ⟨wr.heap.size,1,none⟩=some (.int .i64 fr)/\w'.cell? ⟨wr.heap.size,2,none⟩=some (.int .i64 no)/\w'.cell? ⟨wr.heap.size,3,none⟩=some (.int .i64 st)/\w'.cell? ⟨wr.heap.size,4,none⟩=some (.slice av ls.length cv)) (first | exact hS1 | exact hS2 | exact hS3)
          ((go_at_call 161;refine HC.out.mono ?_;rintro e w2 ⟨lv',rfl,ho2,hb2⟩;obtain ⟨av',cv',rfl⟩:=ho2.rd.shape;obtain ⟨w3,hrun3,hmap3,htu3⟩:=Hstore.out w2 av' cv' hb2;have hS2:w2.cell? ⟨wr.heap.size,0,none⟩=some (.string nm)/\w2.cell? ⟨wr.heap.size,1,none⟩=some (.int .i64 fr)/\w2.cell? ⟨wr.heap.size,2,none⟩=some (.int .i64 no)/\w2.cell? ⟨wr.heap.size,3,none⟩=some (.int .i64 st)/\w2.cell? ⟨wr.heap.size,4,none⟩=some (.slice av ls.length cv):=⟨(hb2.cell (p:=⟨wr.heap.size,0,none⟩) hlt1).trans hS1.1,(hb2.cell (p:=⟨wr.heap.size,1,none⟩) hlt1).trans hS1.2.1,(hb2.cell (p:=⟨wr.heap.size,2,none⟩) hlt1).trans hS1.2.2.1,(hb2.cell (p:=⟨wr.heap.size,3,none⟩) hlt1).trans hS1.2.2.2.1,(hb2.cell (p:=⟨wr.heap.size,4,none⟩) hlt1).trans hS1.2.2.2.2⟩;have hlt2:wr.heap.size < w2.heap.size:=Nat.lt_of_lt_of_le hlt1 hb2.size;have hS3:w3.cell? ⟨wr.heap.size,0,none⟩=some (.string nm)/\w3.cell? ⟨wr.heap.size,1,none⟩=some (.int .i64 fr)/\w3.cell? ⟨wr.heap.size,2,none⟩=some (.int .i64 no)/\w3.cell? ⟨wr.heap.size,3,none⟩=some (.int .i64 st)/\w3.cell? ⟨wr.heap.size,4,none⟩=some (.slice av ls.length cv):=⟨(turned_cell htu3 (p:=⟨wr.heap.size,0,none⟩) (Nat.ne_of_gt hwl) hlt2).trans hS2.1,(turned_cell htu3 (p:=⟨wr.heap.size,1,none⟩) (Nat.ne_of_gt hwl) hlt2).trans hS2.2.1,(turned_cell htu3 (p:=⟨wr.heap.size,2,none⟩) (Nat.ne_of_gt hwl) hlt2).trans hS2.2.2.1,(turned_cell htu3 (p:=⟨wr.heap.size,3,none⟩) (Nat.ne_of_gt hwl) hlt2).trans hS2.2.2.2.1,(turned_cell htu3 (p:=⟨wr.heap.size,4,none⟩) (Nat.ne_of_gt hwl) hlt2).trans hS2.2.2.2.2⟩))
        have hB2:Below wr.heap.size wr w2:=hA.trans (hb2.mono hA.size)
        have hlv3:Lvs (w.heap.size+1) w3 w.heap.size (Z ++ [((nm,fr,no,st,ls),.slice av' ls.length cv')]):=Lvs.grown ((Hlv.out.below hB2 (Nat.le_refl _)).snoc ((nm,fr,no,st,ls),.slice av' ls.length cv') (OwnL.mono ho2 (by omega)) (fun j hj=>by have:=OwnL.ge ho2 j hj;omega)
          (fun i hi j hj e=>by have:=(Hlv.out.own i hi).lt j hj;have:=OwnL.ge ho2 j e;omega)) htu3.grown
        have hB3:Below w.heap.size w w3:=(hb.trans (hB2.mono hb.size)).trans (turned_below htu3 (Nat.le_refl _) (by have:=hB2.size;omega))
        clear hrun3
        go_wp2
        go_roundw
        case rel=>exact ⟨k+1,_,by omega,by go_num,HZ2.out _,hmap3,hlv3,hB3⟩
        case measure=>simp [intOf];omega
      · have e:k=l.length:=by omega
        subst e
        rw [List.take_length] at hZ
        go_wp2
        go_ret
        exact ⟨Z,rfl,hZ,ho,hlv,hb⟩
end Go.Proofs.YtohachldbpejpaaGreatDoor

namespace Go.Proofs.YtohachldbpejpaaGreatDoor
open Go.RowKit
set_option linter.unusedVariables false
theorem implWithin_any (x a b:Int) (w:World) :
    Calls Tryz.prog 53 #[.int .i64 x,.int .i64 a,.int .i64 b] w fun e w'=>e=.returned (.bool (inB x a b))/\w'=w:=by
  by_cases h1:a<=x
  · by_cases h2:x<=b
    · have e:Hid (inB x a b=true):=hide (by simp [inB,h1,h2])
      go_enter Tryz.func53,Tryz.ntmps53
      go_wp2
      go_ret
      rw [e.out];exact ⟨rfl,rfl⟩
    · have e:Hid (inB x a b=false):=hide (by simp [inB,h1,h2])
      go_enter Tryz.func53,Tryz.ntmps53
      go_wp2
      go_ret
      rw [e.out];exact ⟨rfl,rfl⟩
  · have e:Hid (inB x a b=false):=hide (by simp [inB,h1])
    go_enter Tryz.func53,Tryz.ntmps53
    go_wp2
    go_ret
    rw [e.out];exact ⟨rfl,rfl⟩
set_option maxRecDepth 20000 in
set_option maxHeartbeats 2000000 in
theorem implLeavesOk_any (lv:Value) (ls:List (Int × Int)) (w:World) (hr:RdL w lv ls) (hl:ls.length<=4000000) :
    Calls Tryz.prog 169 #[lv] w fun e w'=>e=.returned (.bool (decide (ls.length<=4) && lvsB ls))/\Below w.heap.size w w':=by
  have Hr':=hide hr
  obtain ⟨av,cv,rfl⟩:=hr.shape
  clear hr
  by_cases e4:ls.length<=4
  · have Hac:Hid ((decide (ls.length<=4) && lvsB ls)=lvsB ls):=hide (by rw [decide_eq_true e4,Bool.true_and])
    have e4i:(ls.length:Int)<=4:=by omega
    go_enter Tryz.func169,Tryz.ntmps169
    go_wp2
    go_loopw [10] (fun i wr=>∃ k:Nat,k<=ls.length/\i=.int .i64 k/\(∀ j,j < k->lvAt ls j=true)/\Below w.heap.size w wr) (fun i _=>ls.length - (intOf i).toNat)
    case atStart=>exact ⟨0,Nat.zero_le _,rfl,fun j hj=>by omega,Below.refl _ _⟩
    case round =>
      obtain ⟨k,hkl,rfl,hok,hb⟩:=hrel
      have Hok:=hide hok
      clear hok
      by_cases hlt:k < ls.length
      · have hrr:=Hr'.out
        rcases hrr with ⟨_,_,_,e,_⟩ | ⟨b,off,cap,h0,hv,h1,h2,h3,h4⟩
        · subst e;simp at hlt
        injection hv with ha _ hcap
        subst ha hcap
        have hc1:=(hb.cell (p:=⟨b,off+k * 2,none⟩) h3).trans (h4 k hlt).1
        have hc2:=(hb.cell (p:=⟨b,off+k * 2+1,none⟩) h3).trans (h4 k hlt).2
        have hli:(k:Int) < (ls.length:Int):=by omega
        have hbb:b < wr.heap.size:=Nat.lt_of_lt_of_le h3 hb.size
        have Hno:=hide (lvs_no ls k hlt)
        have Hnx:Hid (lvAt ls k=true->∀ j,j < k+1->lvAt ls j=true):=hide (fun h j hj=>by
          by_cases e:j=k
          · subst e;exact h
          · exact Hok.out j (by omega))
        have Hat:Hid (lvAt ls k=(inB ls[k].1 1 1000000 && (inB ls[k].2 0 1000 && (decide (k=0) || decide ((ls.getD (k - 1) (0,0)).2 < ls[k].2))))):=hide (by unfold lvAt;rw [List.getD_eq_getElem?_getD,List.getElem?_eq_getElem hlt];rfl)
        have Hpr:Hid (0 < k->wr.cell? ⟨b,off+(k - 1) * 2+1,none⟩=some (.int .i64 (ls.getD (k - 1) (0,0)).2)):=hide (fun h=>by
          have:=(hb.cell (p:=⟨b,off+(k - 1) * 2+1,none⟩) h3).trans (h4 (k - 1) (by omega)).2
          rw [List.getD_eq_getElem?_getD,List.getElem?_eq_getElem (show k - 1 < ls.length by omega)]
          exact this)
        clear h4 Hok
        generalize ls[k]=p at hc1 hc2 Hat
        obtain ⟨x,y⟩:=p
        simp only at hc1 hc2 Hat
        by_cases q1:inB x 1 1000000=true
        · by_cases q2:inB y 0 1000=true
          · rw [q1,q2,Bool.true_and,Bool.true_and] at Hat
            cases k with
            | zero =>
              rw [show decide (0=0)=true from rfl,Bool.true_or] at Hat
              rw [Nat.zero_mul,Nat.add_zero] at hc1 hc2
              have Hnx:=hide (Hnx.out Hat.out)
              clear Hat Hno Hpr
              go_wp2
              go_quiet ((go_at_call 53;exact Calls.quiet_of_same (implWithin_any _ _ _ _)))
              go_wp2
              go_roundw
              case rel=>exact ⟨0+1,by omega,by go_num,Hnx.out,below_drewN (hb.alloc hb.size _) _⟩
              case measure=>simp [intOf];omega
            | succ j =>
              rw [show decide (j+1=0)=false from rfl,Bool.false_or] at Hat
              have hpr:=Hpr.out (by omega)
              rw [show j+1 - 1=j from by omega] at hpr Hat
              generalize (ls.getD j (0,0)).2=z at hpr Hat
              by_cases q3:z < y
              · rw [decide_eq_true q3] at Hat
                have Hnx:=hide (Hnx.out Hat.out)
                clear Hat Hno Hpr
                go_wp2
                go_quiet ((go_at_call 53;exact Calls.quiet_of_same (implWithin_any _ _ _ _)))
                go_wp2
                go_roundw
                case rel=>exact ⟨j+1+1,by omega,by go_num,Hnx.out,below_drewN (hb.alloc hb.size _) _⟩
                case measure=>simp [intOf];omega
              · rw [decide_eq_false q3] at Hat
                have Hno:=hide (Hac.out.trans (Hno.out Hat.out))
                clear Hat Hnx Hpr
                go_wp2
                go_quiet ((go_at_call 53;exact Calls.quiet_of_same (implWithin_any _ _ _ _)))
                go_wp2
                go_ret
                exact ⟨ret_bool Hno.out.symm,below_drewN (hb.alloc hb.size _) _⟩
          · have q2:inB y 0 1000=false:=by simpa using q2
            rw [q1,q2,Bool.true_and,Bool.false_and] at Hat
            have Hno:=hide (Hac.out.trans (Hno.out Hat.out))
            clear Hat Hnx Hpr
            go_wp2
            go_quiet ((go_at_call 53;exact Calls.quiet_of_same (implWithin_any _ _ _ _)))
            go_wp2
            go_ret
            exact ⟨ret_bool Hno.out.symm,below_drewN (hb.alloc hb.size _) _⟩
        · have q1:inB x 1 1000000=false:=by simpa using q1
          rw [q1,Bool.false_and] at Hat
          have Hno:=hide (Hac.out.trans (Hno.out Hat.out))
          clear Hat Hnx Hpr
          go_wp2
          go_quiet ((go_at_call 53;exact Calls.quiet_of_same (implWithin_any _ _ _ _)))
          go_wp2
          go_ret
          exact ⟨ret_bool Hno.out.symm,below_drewN (hb.alloc hb.size _) _⟩
      · have Hy:=hide (Hac.out.trans (lvs_yes ls (fun j hj=>Hok.out j (by omega))))
        go_wp2
        go_ret
        exact ⟨ret_bool Hy.out.symm,hb⟩
  · have Hac:Hid ((decide (ls.length<=4) && lvsB ls)=false):=hide (by rw [decide_eq_false e4,Bool.false_and])
    have e4i:(4:Int) < (ls.length:Int):=by omega
    clear e4
    go_enter Tryz.func169,Tryz.ntmps169
    go_wp2
    go_ret
    exact ⟨ret_bool Hac.out.symm,Below.refl _ _⟩
set_option maxRecDepth 20000 in
set_option maxHeartbeats 2000000 in
theorem implAcctOk_any (a:Ac) (lv:Value) (w:World) (hr:RdL w lv a.2.2.2.2) (hn:a.1.size<=maxLen) (hl:a.2.2.2.2.length<=4000000) :
    Calls Tryz.prog 115 #[acV a lv] w fun e w'=>e=.returned (.bool (acB a))/\Below w.heap.size w w':=by
  obtain ⟨nm,fr,no,st,ls⟩:=a
  have HB:=hide ((Below.refl _ w).alloc (Nat.le_refl _) (.cells #[.string nm,.int .i64 fr,.int .i64 no,.int .i64 st,lv] 105))
  have hk:=Blk.new w 105 [.string nm,.int .i64 fr,.int .i64 no,.int .i64 st,lv]
  have Hr:=hide (hr.below HB.out (Nat.le_refl _))
  obtain ⟨av,cv,rfl⟩:=hr.shape
  clear hr
  simp only [acV] at *
  obtain ⟨w0,hw0⟩:∃ w0,w.alloc (.cells #[.string nm,.int .i64 fr,.int .i64 no,.int .i64 st,.slice av ls.length cv] 105)=w0:=⟨_,rfl⟩
  have hk':Blk w0 w.heap.size 105 [.string nm,.int .i64 fr,.int .i64 no,.int .i64 st,.slice av ls.length cv]:=by rw [<- hw0];exact hk
  have HB':Hid (Below w.heap.size w w0):=hide (by rw [<- hw0];exact HB.out)
  have HL:Hid (Calls Tryz.prog 169 #[.slice av ls.length cv] w0 fun e w'=>e=.returned (.bool (decide (ls.length<=4) && lvsB ls))/\Below w0.heap.size w0 w'):=hide (implLeavesOk_any _ ls w0 (by rw [<- hw0];exact Hr.out) hl)
  have hlt0:=hk'.lt
  have k0:=hk'.cell 0
  have k1:=hk'.cell 1
  have k2:=hk'.cell 2
  have k3:=hk'.cell 3
  have k4:=hk'.cell 4
  simp only [List.getElem?_cons_zero,List.getElem?_cons_succ] at k0 k1 k2 k3 k4
  clear hk HB Hr
  have Hac:Hid (acB (nm,fr,no,st,ls)=(nmB nm && (inB fr 0 1000000 && (inB no 0 10000 && (inB st 0 1000000 && (decide (ls.length<=4) && lvsB ls)))))):=hide rfl
  generalize (decide (ls.length<=4) && lvsB ls)=L at HL Hac
  generalize acB (nm,fr,no,st,ls)=X at Hac
  by_cases e0:nmB nm=true
  · by_cases e1:inB fr 0 1000000=true
    · by_cases e2:inB no 0 10000=true
      · by_cases e3:inB st 0 1000000=true
        · rw [e0,e1,e2,e3] at Hac
          simp only [Bool.true_and] at Hac
          go_enter Tryz.func115,Tryz.ntmps115
          go_wp2_with (first
            | (go_at_call 163;refine (implNameOk_any nm _ hn).mono ?_;rintro e w0 ⟨rfl,rfl⟩)
            | (go_at_call 53;refine (implWithin_any _ _ _ _).mono ?_;rintro e w0 ⟨rfl,rfl⟩)
            | (go_at_call 169;refine HL.out.mono ?_;rintro e w2 ⟨rfl,hb2⟩))
          go_ret
          exact ⟨ret_bool Hac.out.symm,HB'.out.trans (hb2.mono HB'.out.size)⟩
        · have e3:inB st 0 1000000=false:=by simpa using e3
          rw [e0,e1,e2,e3] at Hac
          simp only [Bool.true_and,Bool.false_and] at Hac
          go_enter Tryz.func115,Tryz.ntmps115
          go_wp2_with (first
            | (go_at_call 163;refine (implNameOk_any nm _ hn).mono ?_;rintro e w0 ⟨rfl,rfl⟩)
            | (go_at_call 53;refine (implWithin_any _ _ _ _).mono ?_;rintro e w0 ⟨rfl,rfl⟩))
          go_ret
          exact ⟨ret_bool Hac.out.symm,HB'.out⟩
      · have e2:inB no 0 10000=false:=by simpa using e2
        rw [e0,e1,e2] at Hac
        simp only [Bool.true_and,Bool.false_and] at Hac
        go_enter Tryz.func115,Tryz.ntmps115
        go_wp2_with (first
          | (go_at_call 163;refine (implNameOk_any nm _ hn).mono ?_;rintro e w0 ⟨rfl,rfl⟩)
          | (go_at_call 53;refine (implWithin_any _ _ _ _).mono ?_;rintro e w0 ⟨rfl,rfl⟩))
        go_ret
        exact ⟨ret_bool Hac.out.symm,HB'.out⟩
    · have e1:inB fr 0 1000000=false:=by simpa using e1
      rw [e0,e1] at Hac
      simp only [Bool.true_and,Bool.false_and] at Hac
      go_enter Tryz.func115,Tryz.ntmps115
      go_wp2_with (first
        | (go_at_call 163;refine (implNameOk_any nm _ hn).mono ?_;rintro e w0 ⟨rfl,rfl⟩)
        | (go_at_call 53;refine (implWithin_any _ _ _ _).mono ?_;rintro e w0 ⟨rfl,rfl⟩))
      go_ret
      exact ⟨ret_bool Hac.out.symm,HB'.out⟩
  · have e0:nmB nm=false:=by simpa using e0
    rw [e0] at Hac
    simp only [Bool.false_and] at Hac
    go_enter Tryz.func115,Tryz.ntmps115
    go_wp2_with (first
      | (go_at_call 163;refine (implNameOk_any nm _ hn).mono ?_;rintro e w0 ⟨rfl,rfl⟩)
      | (go_at_call 53;refine (implWithin_any _ _ _ _).mono ?_;rintro e w0 ⟨rfl,rfl⟩))
    go_ret
    exact ⟨ret_bool Hac.out.symm,HB'.out⟩
end Go.Proofs.YtohachldbpejpaaGreatDoor
