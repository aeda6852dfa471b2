/- The book of accounts that ascend. -/
import Derived.Test.YthehfkafcdociaaGreatDoorZyAcKeys
set_option maxRecDepth 20000
set_option maxHeartbeats 1000000
namespace Go.Proofs.YthehfkafcdociaaGreatDoor
open Go.RowKit Go.Maps
set_option linter.unusedVariables false
theorem step_len {ops:Array Oper} {rest:List Oper} {o:Oper} {a:Act} {Q:Exit->Act->World->Prop} (w:World) (hg:o.guard=none) (m:Operand) (hop:o.op=Op.call { callee:=Callee.builtin Builtin.len,args:=#[m],argTypes:=#[272] })
    (b n:Nat) (Z:List (Ac × Value)) (hm:a.eval m=.map (some b)) (hown:w.ownsMap Tryz.prog 9 RV b n (bookD Z))
    (hK:wpList Tryz.prog ops Q rest (a.put o.dst (.int .i64 (Z.length:Int))) w):wpList Tryz.prog ops Q (o :: rest) a w:=by
  refine wpList_len_own w hg m 272 hop 9 122 Tryz.underlying272 RV b n (bookD Z) hm hown ?_
  rw [size_book]
  exact hK
theorem listed_any (b n:Nat) (Z:List (Ac × Value)) (w:World) (hown:w.ownsMap Tryz.prog 9 RV b n (bookD Z)) (ha:Asc Z) (hl:Z.length<=4000000) (hnm:∀ q ∈ Z,q.1.1.size<=maxLen) (hsl:∀ q ∈ Z,∃ a m c,q.2=.slice a m c) :
    Calls Tryz.prog 161 #[.map (some b)] w fun e w'=>∃ g cap,e=.returned (.slice (some ⟨g,0,none⟩) Z.length cap)/\RowA w.heap.size w' (.slice (some ⟨g,0,none⟩) Z.length cap) Z/\Below w.heap.size w w':=by
  obtain ⟨i0,hi,hz0,hz1,hz2⟩:=info_parts Tryz.infoAc
  have Ho:=hide hown
  have hbl:=hown.lt
  clear hown
  go_enter Tryz.func161,Tryz.ntmps161
  go_wp2_with (first
    | (at_len;refine step_len _ rfl _ rfl b n Z rfl Ho.out ?_)
    | (refine wpList_make_own _ rfl _ _ 34 rfl w.heap.size 122 i0 (.agg #[.string { data:=#[] },.int .i64 0,.int .i64 0,.int .i64 0,.slice none 0 0]) 5 Tryz.underlying34 hi hz0 hz1 .i64 .i64 _ Z.length rfl rfl rfl (by rw [hz2];omega) (by unfold maxLen;omega) (Nat.le_refl _) ?_;intro w1 hrow1 hgr1;have hb1:Below w.heap.size w w1:=(Below.refl _ _).grown hgr1 (Nat.le_refl _) (by intro k hk;cases hk);have Ho1:=hide (book_below Ho.out hb1 hbl))
    | (go_at_call 163;refine (keys_any _ _).mono ?_;rintro e w2 ⟨rfl,rfl⟩))
  refine (names_any b n Z w1 Ho1.out ha hl).mono ?_
  rintro e w3 ⟨v,rfl,hrow3,hb3⟩
  have hlt1:w.heap.size < w1.heap.size:=(World.ownsRow.lt hrow1 w.heap.size rfl).2
  have hb13:Below w1.heap.size w1 w3:=((Below.refl _ w1).alloc (Nat.le_refl _) _).trans (hb3.mono (by omega))
  have hB3:Below w.heap.size w w3:=hb1.trans (hb13.mono hb1.size)
  have Hr3:Hid (RowA w.heap.size w3 (.slice (some ⟨w.heap.size,0,none⟩) 0 Z.length) []):=hide (row_below hrow1 hb13 (Nat.le_refl _))
  clear hrow1 hgr1 hb3 Ho1
  have Hrow:=hide hrow3
  rcases hrow3.2 with ⟨rfl,hz⟩ | ⟨gv,cv,cur,rfl,hgv,hgc,h1,h2,h3,h4⟩
  · have e:Z=[]:=List.length_eq_zero_iff.1 hz
    subst e
    clear hrow3
    go_wp2
    refine wp_loop_rounds 1 ?_
    rw [rounds_succ]
    go_wp2
    go_ret
    exact ⟨_,_,rfl,Hr3.out,hB3⟩
  · clear hrow3 hgc h4 h3
    go_wp2
    go_loopw [3,13] (fun ov iv wr=>∃ (k g c:Nat),k<=Z.length/\iv=.int .i64 k/\ov=.slice (some ⟨g,0,none⟩) k c/\RowA w.heap.size wr ov (Z.take k)/\wr.ownsRow (w1.heap.size+1) 9 1 (.slice (some ⟨gv,0,none⟩) Z.length cv) Z.length (Z.map (fun q=>Value.string q.1.1))/\gv ≠ g/\Below w.heap.size w wr) (fun _ iv _=>Z.length - (intOf iv).toNat)
    case atStart=>exact ⟨0,_,_,Nat.zero_le _,rfl,rfl,Hr3.out,Hrow.out,by omega,hB3⟩
    case round =>
      obtain ⟨k,g,c,hk,rfl,rfl,ho,hns,hne,hb⟩:=hrel
      clear hB3 Hr3 Hrow hb13
      have hzl:(Z.take k).length=k:=by simp;omega
      by_cases hlt:k < Z.length
      · have hc:wr.cell? ⟨gv,k,none⟩=some (.string Z[k].1.1):=by
          have:=hns.cellAt k (by omega)
          rw [this]
          simp [hlt]
        have hli:(k:Int) < (Z.length:Int):=by omega
        have hgl:g < wr.heap.size:=ho.lt g rfl
        have hgw:w.heap.size<=g:=ho.ge g rfl
        have hgvl:gv < wr.heap.size:=(World.ownsRow.lt hns gv rfl).2
        have hws:=hb.size
        have HoK:=hide (book_below Ho.out hb hbl)
        have hsz:=hnm Z[k] (List.getElem_mem _)
        have hlook:Hid (lookB Z[k].1.1 Z=acV Z[k].1 Z[k].2):=hide (by unfold lookB;rw [get_at ha k hlt])
        have Hnx:Hid (Z.take (k+1)=Z.take k ++ [Z[k]]):=hide (List.take_succ_eq_append_getElem hlt)
        have hshape:=hsl Z[k] (List.getElem_mem _)
        have Hro:=hide ho
        have Hns:=hide hns
        clear ho hns
        generalize Z[k]=q at hc hsz hlook Hnx hshape
        obtain ⟨⟨nm,fr,no,st,ls⟩,lv⟩:=q
        obtain ⟨a',m',c',hlv⟩:=hshape
        simp only at hlv hc hsz hlook
        subst hlv
        simp only [acV] at hlook
        go_wp2_with (first
          | (at_lookup;refine step_look _ rfl _ _ false rfl b n Z nm rfl rfl HoK.out hsz ?_;rw [hlook.out];simp only [Bool.false_eq_true,if_false])
          | (at_builtin;refine app_ownA _ rfl _ _ rfl w.heap.size (.slice (some ⟨g,0,none⟩) k c) _ (Z.take k) ((nm,fr,no,st,ls),.slice a' m' c') rfl rfl (World.ownsRow.alloc Hro.out _) (Blk.new' _ _ (acC ((nm,fr,no,st,ls),.slice a' m' c')) _ (by simp)) rfl (by simp;omega) (by simp;omega) ?_;intro v' w4 hrow4 hgr4 hnn4 hloc4;obtain ⟨g',c'',rfl⟩:=hrow4.shapeN hnn4 (k+1) (by simp;omega)))
        go_roundw
        case rel =>
          refine ⟨k+1,g',c'',by omega,by go_num,rfl,by rw [Hnx.out];exact hrow4,World.ownsRow.kept (World.ownsRow.alloc Hns.out _) hgr4 (.inr (by simp [Value.ownBlock];exact hne)),?_,(hb.alloc hws _).grown hgr4 (by simp;omega) (fun j hj=>by cases hj;exact hgw)⟩
          rcases hloc4 with h | h
          · have:g'=g:=by simpa [Value.ownBlock] using h
            omega
          · have:g'=wr.heap.size+1:=by simpa [Value.ownBlock] using h
            omega
        case measure=>simp [intOf];omega
      · have e:k=Z.length:=by omega
        subst e
        rw [List.take_length] at ho
        go_wp2
        go_ret
        exact ⟨_,_,rfl,ho,hb⟩
end Go.Proofs.YthehfkafcdociaaGreatDoor
namespace Go.Proofs.YthehfkafcdociaaGreatDoor
open Go.RowKit Go.Maps
set_option linter.unusedVariables false
theorem insZ_last (q:Ac × Value):∀ Z:List (Ac × Value),(∀ x ∈ Z,Lt x.1.1 q.1.1)->insZ q Z=Z ++ [q]
  | [],_=>rfl
  | x :: t,h=>by rw [insZ_lt (h x List.mem_cons_self),insZ_last q t (fun y hy=>h y (List.mem_cons_of_mem _ hy))];rfl
theorem asc_take {l:List Ac} (ha:AscA l) {k:Nat} (hk:k < l.length) {Z:List (Ac × Value)} (hZ:Z.map (·.1)=l.take k):Asc Z/\∀ x ∈ Z,Lt x.1.1 l[k].1:=by
  refine ⟨(asc_map Z).2 (by rw [hZ];exact List.Pairwise.sublist (List.take_sublist _ _) ha),fun x hx=>?_⟩
  have hm:x.1 ∈ l.take k:=by rw [<- hZ];exact List.mem_map_of_mem hx
  obtain ⟨j,hj,e⟩:=List.mem_iff_getElem.1 hm
  simp at hj
  rw [<- e,List.getElem_take]
  exact List.pairwise_iff_getElem.1 ha j k (by omega) hk (by omega)
theorem turned_below {w w':World} {b B:Nat} (h:w.mapTurned w' b) (hB:B<=b) (hs:B<=w.heap.size):Below B w w':=(Below.refl _ _).grown h.grown hs (fun j hj=>by cases hj;exact hB)
theorem turned_cell {w w':World} {b:Nat} (h:w.mapTurned w' b) {p:Addr} (hp:p.block ≠ b) (hl:p.block < w.heap.size):w'.cell? p=w.cell? p:=by
  have:=h.grown.block p.block hl (fun e=>hp (by injection e))
  simp only [World.cell?,this]
theorem run_makeN (n:Int) (w:World):(Instr.makeMap 272 (some (.int .i64 n))).run Tryz.prog w=.ok (.map (some w.heap.size)) (w.alloc (.map #[] 0)):=by
  simp [Instr.makeMap,run_underlying Tryz.underlying272,asInt,asIntOf,Result.andThen]
theorem bookOf_any (v:Value) (l:List Ac) (w:World) (hr:RdA w v l) (ha:AscA l) (hl:l.length<=4000000) (hall:∀ a ∈ l,a.1.size<=maxLen/\a.2.2.2.2.length<=4000000) :
    Calls Tryz.prog 159 #[v] w fun e w'=>∃ Z:List (Ac × Value),e=.returned (.map (some w.heap.size))/\Z.map (·.1)=l/\w'.ownsMap Tryz.prog 9 RV w.heap.size l.length (bookD Z)/\Lvs (w.heap.size+1) w' w.heap.size Z/\Below w.heap.size w w':=by
  have hmm:=run_makeN
  have hB0:Hid (Below w.heap.size w (w.alloc (.map #[] 0))):=hide ((Below.refl _ w).alloc (Nat.le_refl _) _)
  have hm0:Hid ((w.alloc (.map #[] 0)).ownsMap Tryz.prog 9 RV w.heap.size 0 (bookD [])):=hide (World.ownsMap_made _ _ _ _)
  rcases hr with ⟨a,cap,rfl,rfl,-⟩ | ⟨b,off,cap,h0,rfl,h1,h2,h3,h4⟩
  · go_enter Tryz.func159,Tryz.ntmps159
    go_wp2
    refine wp_loop_rounds 1 ?_
    rw [rounds_succ]
    go_wp2
    go_ret
    exact ⟨[],rfl,rfl,hm0.out,Lvs.nil _ _ _,hB0.out⟩
  · have H4:=hide h4
    have Hall:=hide hall
    have Ha:=hide ha
    clear h4 hall ha
    go_enter Tryz.func159,Tryz.ntmps159
    go_wp2
    go_loopw [11] (fun iv wr=>∃ (k:Nat) (Z:List (Ac × Value)),k<=l.length/\iv=.int .i64 k/\Z.map (·.1)=l.take k/\wr.ownsMap Tryz.prog 9 RV w.heap.size k (bookD Z)/\Lvs (w.heap.size+1) wr w.heap.size Z/\Below w.heap.size w wr) (fun iv _=>l.length - (intOf iv).toNat)
    case atStart=>exact ⟨0,[],Nat.zero_le _,rfl,rfl,hm0.out,Lvs.nil _ _ _,hB0.out⟩
    case round =>
      obtain ⟨k,Z,hk,rfl,hZ,ho,hlv,hb⟩:=hrel
      clear hm0 hB0
      by_cases hlt:k < l.length
      · obtain ⟨lv,hat,hrl⟩:=H4.out k hlt
        obtain ⟨c0,c1,c2,c3,c4⟩:=hat.below hb h3
        have hli:(k:Int) < (l.length:Int):=by omega
        have hbb:b < wr.heap.size:=Nat.lt_of_lt_of_le h3 hb.size
        have hwl:w.heap.size < wr.heap.size:=ho.lt
        have hshape:=hrl.shape
        have Hrl:=hide (hrl.below hb (Nat.le_refl _))
        have hls:=Hall.out l[k] (List.getElem_mem _)
        have HZ2:Hid (∀ lv':Value,(Z ++ [(l[k],lv')]).map (·.1)=l.take (k+1)):=hide (fun lv'=>by rw [List.map_append,hZ,List.take_succ_eq_append_getElem hlt];rfl)
        have Hasc:=hide (asc_take Ha.out hlt hZ)
        have Ho:=hide ho
        have Hlv:=hide hlv
        clear hat hrl ho hlv hZ
        generalize l[k]=ak at c0 c1 c2 c3 hshape Hrl hls HZ2 Hasc
        obtain ⟨nm,fr,no,st,ls⟩:=ak
        obtain ⟨av,cv,rfl⟩:=hshape
        simp only at c0 c1 c2 c3 Hrl hls
        obtain ⟨w1,hw1⟩:∃ w1,wr.alloc (.cells #[.string nm,.int .i64 fr,.int .i64 no,.int .i64 st,.slice av ls.length cv] 122)=w1:=⟨_,rfl⟩
        have hA:Below wr.heap.size wr w1.drew:=by rw [<- hw1];exact ((Below.refl _ wr).alloc (Nat.le_refl _) _).drew
        have hk1:Blk w1.drew wr.heap.size 122 [.string nm,.int .i64 fr,.int .i64 no,.int .i64 st,.slice av ls.length cv]:=by rw [<- hw1];exact Blk.new wr _ _
        have HC:=hide (implCopied_any (nm,fr,no,st,ls) (.slice av ls.length cv) w1.drew (Hrl.out.below hA (Nat.le_refl _)) hls.2)
        simp only [acV] at HC
        have Hstore:Hid (∀ (w2:World) (av':Option Addr) (cv':Nat),Below w1.drew.heap.size w1.drew w2->∃ w3,(Instr.mapUpdate 272 (.map (some w.heap.size)) (.string nm) (.agg #[.string nm,.int .i64 fr,.int .i64 no,.int .i64 st,.slice av' ls.length cv'])).run Tryz.prog w2=.ok () w3/\w3.ownsMap Tryz.prog 9 RV w.heap.size (k+1) (bookD (Z ++ [((nm,fr,no,st,ls),.slice av' ls.length cv')]))/\w2.mapTurned w3 w.heap.size):=hide (fun w2 av' cv' hb2=>by
          have ho2:=book_below Ho.out (hA.trans (hb2.mono hA.size)) hwl
          obtain ⟨w3,e1,e2,e3⟩:=ho2.store key_law Tryz.underlying272 (by unfold maxLen;omega) (val:=acV (nm,fr,no,st,ls) (.slice av' ls.length cv')) (key_of nm hls.1) rfl
          refine ⟨w3,e1,?_,e3⟩
          have:=put_book Z Hasc.out.1 ((nm,fr,no,st,ls),.slice av' ls.length cv')
          rw [this,insZ_last _ Z Hasc.out.2] at e2
          exact e2)
        have e0:=hk1.cell 0
        have e1:=hk1.cell 1
        have e2:=hk1.cell 2
        have e3:=hk1.cell 3
        have e4:=hk1.cell 4
        simp only [List.getElem?_cons_zero,List.getElem?_cons_succ] at e0 e1 e2 e3 e4
        have hS1:w1.drew.cell? ⟨wr.heap.size,0,none⟩=some (.string nm)/\w1.drew.cell? ⟨wr.heap.size,1,none⟩=some (.int .i64 fr)/\w1.drew.cell? ⟨wr.heap.size,2,none⟩=some (.int .i64 no)/\w1.drew.cell? ⟨wr.heap.size,3,none⟩=some (.int .i64 st)/\w1.drew.cell? ⟨wr.heap.size,4,none⟩=some (.slice av ls.length cv):=⟨e0,e1,e2,e3,e4⟩
        have hlt1:wr.heap.size < w1.drew.heap.size:=hk1.lt
        clear e0 e1 e2 e3 e4 hk1
        go_wp2
        clear c0 c1 c2 c3 c4
        go_region_held_law (fun w'=>w'.cell? ⟨wr.heap.size,0,none⟩=some (.string nm)/\w'.cell? ⟨wr.heap.size,1,none⟩=some (.int .i64 fr)/\w'.cell? ⟨wr.heap.size,2,none⟩=some (.int .i64 no)/\w'.cell? ⟨wr.heap.size,3,none⟩=some (.int .i64 st)/\w'.cell? ⟨wr.heap.size,4,none⟩=some (.slice av ls.length cv)) (first | exact hS1 | exact hS2 | exact hS3)
          ((go_at_call 106;refine HC.out.mono ?_;rintro e w2 ⟨lv',rfl,ho2,hb2⟩;obtain ⟨av',cv',rfl⟩:=ho2.rd.shape;obtain ⟨w3,hrun3,hmap3,htu3⟩:=Hstore.out w2 av' cv' hb2;have hS2:w2.cell? ⟨wr.heap.size,0,none⟩=some (.string nm)/\w2.cell? ⟨wr.heap.size,1,none⟩=some (.int .i64 fr)/\w2.cell? ⟨wr.heap.size,2,none⟩=some (.int .i64 no)/\w2.cell? ⟨wr.heap.size,3,none⟩=some (.int .i64 st)/\w2.cell? ⟨wr.heap.size,4,none⟩=some (.slice av ls.length cv):=⟨(hb2.cell (p:=⟨wr.heap.size,0,none⟩) hlt1).trans hS1.1,(hb2.cell (p:=⟨wr.heap.size,1,none⟩) hlt1).trans hS1.2.1,(hb2.cell (p:=⟨wr.heap.size,2,none⟩) hlt1).trans hS1.2.2.1,(hb2.cell (p:=⟨wr.heap.size,3,none⟩) hlt1).trans hS1.2.2.2.1,(hb2.cell (p:=⟨wr.heap.size,4,none⟩) hlt1).trans hS1.2.2.2.2⟩;have hlt2:wr.heap.size < w2.heap.size:=Nat.lt_of_lt_of_le hlt1 hb2.size;have hS3:w3.cell? ⟨wr.heap.size,0,none⟩=some (.string nm)/\w3.cell? ⟨wr.heap.size,1,none⟩=some (.int .i64 fr)/\w3.cell? ⟨wr.heap.size,2,none⟩=some (.int .i64 no)/\w3.cell? ⟨wr.heap.size,3,none⟩=some (.int .i64 st)/\w3.cell? ⟨wr.heap.size,4,none⟩=some (.slice av ls.length cv):=⟨(turned_cell htu3 (p:=⟨wr.heap.size,0,none⟩) (Nat.ne_of_gt hwl) hlt2).trans hS2.1,(turned_cell htu3 (p:=⟨wr.heap.size,1,none⟩) (Nat.ne_of_gt hwl) hlt2).trans hS2.2.1,(turned_cell htu3 (p:=⟨wr.heap.size,2,none⟩) (Nat.ne_of_gt hwl) hlt2).trans hS2.2.2.1,(turned_cell htu3 (p:=⟨wr.heap.size,3,none⟩) (Nat.ne_of_gt hwl) hlt2).trans hS2.2.2.2.1,(turned_cell htu3 (p:=⟨wr.heap.size,4,none⟩) (Nat.ne_of_gt hwl) hlt2).trans hS2.2.2.2.2⟩))
        have hB2:Below wr.heap.size wr w2:=hA.trans (hb2.mono hA.size)
        have hlv3:Lvs (w.heap.size+1) w3 w.heap.size (Z ++ [((nm,fr,no,st,ls),.slice av' ls.length cv')]):=Lvs.grown ((Hlv.out.below hB2 (Nat.le_refl _)).snoc ((nm,fr,no,st,ls),.slice av' ls.length cv') (OwnL.mono ho2 (by omega)) (fun j hj=>by have:=OwnL.ge ho2 j hj;omega)
          (fun i hi j hj e=>by have:=(Hlv.out.own i hi).lt j hj;have:=OwnL.ge ho2 j e;omega)) htu3.grown
        have hB3:Below w.heap.size w w3:=(hb.trans (hB2.mono hb.size)).trans (turned_below htu3 (Nat.le_refl _) (by have:=hB2.size;omega))
        clear hrun3
        go_wp2
        go_roundw
        case rel=>exact ⟨k+1,_,by omega,by go_num,HZ2.out _,hmap3,hlv3,hB3⟩
        case measure=>simp [intOf];omega
      · have e:k=l.length:=by omega
        subst e
        rw [List.take_length] at hZ
        go_wp2
        go_ret
        exact ⟨Z,rfl,hZ,ho,hlv,hb⟩
end Go.Proofs.YthehfkafcdociaaGreatDoor
