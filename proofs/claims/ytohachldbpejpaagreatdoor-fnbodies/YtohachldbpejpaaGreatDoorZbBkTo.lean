/- Blocks made anew by the laws. -/
import Derived.Test.YtohachldbpejpaaGreatDoorZbTxRow
set_option maxRecDepth 20000
set_option maxHeartbeats 2000000
namespace Go.Proofs.YtohachldbpejpaaGreatDoor
open Go.RowKit Go.Sort
set_option linter.unusedVariables false
theorem sameV_regrown {P:Program} {f:FuncId} {args:Array Value} {w:World} {d:Nat} {os:Array Obj} {v:Value}
    (h:Calls P f args (grow (redrawn w d) os) fun e w'=>e=.returned v/\w'=grow (redrawn w d) os):Calls P f args (grow (redrawn w d) os) fun e w''=>e=.returned v/\∃ p:Regrown,w''=grow (redrawn w p.d) p.os :=
  h.mono fun _ _ ⟨he,hw⟩=>⟨he,⟨⟨d,os⟩,hw⟩⟩
def vl0:Vl:=(ByteArray.empty,0)
def valB (p:Vl):Bool:=nmB p.1 && inB p.2 1 1000000
def vlAt (l:List Vl) (i:Nat):Bool:=valB (l.getD i vl0) && (decide (i=0) || Op.bytesLess (l.getD (i - 1) vl0).1.toList (l.getD i vl0).1.toList)
def setB (l:List Vl):Bool:=(List.range l.length).all (vlAt l) && inB l.length 1 12
theorem set_no (l:List Vl) (k:Nat) (h:k < l.length) (hk:vlAt l k=false):setB l=false:=by
  unfold setB
  have:(List.range l.length).all (vlAt l)=false:=by
    rw [List.all_eq_false]
    exact ⟨k,List.mem_range.2 h,by simp [hk]⟩
  rw [this,Bool.false_and]
theorem set_yes (l:List Vl) (h:∀ j,j < l.length->vlAt l j=true):setB l=inB l.length 1 12:=by
  unfold setB
  have:(List.range l.length).all (vlAt l)=true:=by
    rw [List.all_eq_true]
    exact fun j hj=>h j (List.mem_range.1 hj)
  rw [this,Bool.true_and]
theorem vlAt_eq (l:List Vl) (k:Nat) (a:Vl) (h:k < l.length) (ha:l[k]=a):vlAt l k=((nmB a.1 && inB a.2 1 1000000) && (decide (k=0) || Op.bytesLess (l.getD (k - 1) vl0).1.toList a.1.toList)):=by
  have:l.getD k vl0=a:=by rw [List.getD_eq_getElem?_getD,List.getElem?_eq_getElem h,<- ha];rfl
  unfold vlAt;rw [this];rfl
theorem specSetOk_any (v:Value) (l:List Vl) (w:World) (hr:RdV w v l) (hl:l.length<=4000000) (hall:∀ a ∈ l,a.1.size<=maxLen) :
    Calls Tryz.prog 185 #[v] w fun e w'=>e=.returned (.bool (setB l))/\Below w.heap.size w w':=by
  rcases hr with ⟨a,cap,rfl,rfl,-⟩ | ⟨b,off,cap,h0,rfl,h1,h2,h3,h4⟩
  · go_enter Tryz.func185,Tryz.ntmps185
    go_wp2
    refine wp_loop_rounds 1 ?_
    rw [rounds_succ]
    go_wp2_with (go_at_call 181;refine (l1In_any _ _ _ _).mono ?_;rintro e w2 ⟨rfl,rfl⟩)
    go_ret
    exact ⟨rfl,Below.refl _ _⟩
  · have H4 := hide h4
    have Hs:=hide hall
    clear h4 hall
    go_enter Tryz.func185,Tryz.ntmps185
    go_wp2
    go_loopw [3] (fun i wr=>∃ k:Nat,k<=l.length/\i=.int .i64 k/\(∀ j,j < k->vlAt l j=true)/\Below w.heap.size w wr) (fun i _=>l.length - (intOf i).toNat)
    case atStart=>exact ⟨0,Nat.zero_le _,rfl,fun j hj=>by omega,Below.refl _ _⟩
    case round =>
      obtain ⟨k,hk,rfl,hok,hb⟩:=hrel
      have Hall:=hide hok
      clear hok
      by_cases hlt:k < l.length
      · obtain ⟨d0,d1⟩:=H4.out k hlt
        have c0:=(hb.cell (p:=⟨b,off+k * 2,none⟩) h3).trans d0
        have c1:=(hb.cell (p:=⟨b,off+k * 2+1,none⟩) h3).trans d1
        have hsz:=Hs.out l[k] (List.getElem_mem hlt)
        have Hok:=hide (vlAt_eq l k l[k] hlt rfl)
        have Hno:=hide (set_no l k hlt)
        have hli:(k:Int) < (l.length:Int):=by omega
        have Hnx:Hid (vlAt l k=true->∀ j,j < k+1->vlAt l j=true):=hide (fun h j hj=>by
          by_cases e:j=k
          · subst e;exact h
          · exact Hall.out j (by omega))
        have hprev:Hid (k ≥ 1->wr.cell? ⟨b,off+(k - 1) * 2,none⟩=some (.string (l.getD (k - 1) vl0).1)):=hide (fun hk1=>by
          rw [List.getD_eq_getElem?_getD,List.getElem?_eq_getElem (show k - 1 < l.length by omega)]
          exact (hb.cell (p:=⟨b,off+(k - 1) * 2,none⟩) h3).trans (H4.out (k - 1) (by omega)).1)
        clear d0 d1
        generalize l[k]=ak at c0 c1 Hok hsz
        generalize (l.getD (k - 1) vl0).1=pn at hprev Hok
        obtain ⟨nm,wt⟩:=ak
        simp only at c0 c1 Hok hsz
        have HN:=hide (fun (d:Nat) (os:Array Obj)=>sameV_regrown (specNameOk_any nm (grow (redrawn wr d) os) hsz))
        have HI:=hide (fun (d:Nat) (os:Array Obj)=>sameV_regrown (l1In_any wt 1 1000000 (grow (redrawn wr d) os)))
        have g0:=cell_regrown c0
        have g1:=cell_regrown c1
        clear c0 c1 hsz
        cases hn:nmB nm
        · have hf:=hide (Hno.out (by rw [Hok.out,hn];rfl))
          rw [hn] at HN
          clear hn hprev Hnx
          go_wp2
          refine wp_region_quiet_below (by kernel_rfl) (by kernel_rfl) ?_
          repeat (go_big_quiet_step ((first | (go_at_call 182;exact HN.out _ _) | (go_at_call 181;exact HI.out _ _))))
          refine wpQuiet_nil ?_
          intro _ hw'
          obtain ⟨⟨dq,osq⟩,hw''⟩:=hw'
          subst hw''
          go_wp2
          go_ret
          exact ⟨ret_bool hf.out.symm,hb.trans ((below_regrown wr dq osq).mono hb.size)⟩
        · rw [hn] at HN
          cases hi:inB wt 1 1000000
          · have hf:=hide (Hno.out (by rw [Hok.out,hn,hi];rfl))
            rw [hi] at HI
            clear hn hi hprev Hnx
            go_wp2
            refine wp_region_quiet_below (by kernel_rfl) (by kernel_rfl) ?_
            repeat (go_big_quiet_step ((first | (go_at_call 182;exact HN.out _ _) | (go_at_call 181;exact HI.out _ _))))
            refine wpQuiet_nil ?_
            intro _ hw'
            obtain ⟨⟨dq,osq⟩,hw''⟩:=hw'
            subst hw''
            go_wp2
            go_ret
            exact ⟨ret_bool hf.out.symm,hb.trans ((below_regrown wr dq osq).mono hb.size)⟩
          · rw [hi] at HI
            by_cases hk1:k < 1
            · have hd:decide (0 < k)=false:=by simp;omega
              have hd2:decide ((0:Int) < (k:Int))=false:=by simp;omega
              have Hnx:=hide (Hnx.out (by rw [Hok.out,hn,hi,show k=0 from by omega];rfl))
              clear hn hi hprev
              go_wp2
              refine wp_region_quiet_below (by kernel_rfl) (by kernel_rfl) ?_
              repeat (go_big_quiet_step ((first | (go_at_call 182;exact HN.out _ _) | (go_at_call 181;exact HI.out _ _))))
              refine wpQuiet_nil ?_
              intro _ hw'
              obtain ⟨⟨dq,osq⟩,hw''⟩:=hw'
              subst hw''
              go_wp2
              go_roundw
              case rel=>exact ⟨k+1,by omega,by go_num,Hnx.out,hb.trans ((below_regrown wr dq osq).mono hb.size)⟩
              case measure=>simp [intOf];omega
            · have hcp:=cell_regrown (hprev.out (by omega))
              clear hprev
              have hpos:(0:Int) < (k:Int):=by omega
              have hposN:0 < k:=by omega
              have hd1:decide (0 < k)=true:=by simp;omega
              have hix:((k:Int) - 1).toNat=k - 1:=by omega
              have hix1:(0:Int)<=(k:Int) - 1:=by omega
              have hix2:(k:Int) - 1 < (l.length:Int):=by omega
              cases hless:Op.bytesLess pn.toList nm.toList
              · have hf:=hide (Hno.out (by rw [Hok.out,hn,hi,hless];simp;omega))
                clear hn hi Hnx
                go_wp2
                refine wp_region_quiet_below (by kernel_rfl) (by kernel_rfl) ?_
                repeat (go_big_quiet_step ((first | (go_at_call 182;exact HN.out _ _) | (go_at_call 181;exact HI.out _ _))))
                refine wpQuiet_nil ?_
                intro _ hw'
                obtain ⟨⟨dq,osq⟩,hw''⟩:=hw'
                subst hw''
                go_wp2
                go_ret
                exact ⟨ret_bool hf.out.symm,hb.trans ((below_regrown wr dq osq).mono hb.size)⟩
              · have Hnx:=hide (Hnx.out (by rw [Hok.out,hn,hi,hless];simp))
                clear hn hi
                go_wp2
                refine wp_region_quiet_below (by kernel_rfl) (by kernel_rfl) ?_
                repeat (go_big_quiet_step ((first | (go_at_call 182;exact HN.out _ _) | (go_at_call 181;exact HI.out _ _))))
                refine wpQuiet_nil ?_
                intro _ hw'
                obtain ⟨⟨dq,osq⟩,hw''⟩:=hw'
                subst hw''
                go_wp2
                go_roundw
                case rel=>exact ⟨k+1,by omega,by go_num,Hnx.out,hb.trans ((below_regrown wr dq osq).mono hb.size)⟩
                case measure=>simp [intOf];omega
      · have hf:=hide (set_yes l (fun j hj=>Hall.out j (by omega)))
        go_wp2_with (go_at_call 181;refine (l1In_any _ _ _ _).mono ?_;rintro e w2 ⟨rfl,rfl⟩)
        go_ret
        exact ⟨ret_bool hf.out.symm,hb⟩
end Go.Proofs.YtohachldbpejpaaGreatDoor
namespace Go.Proofs.YtohachldbpejpaaGreatDoor
open Go.RowKit
set_option linter.unusedVariables false
structure Bk where
  id:Int
  ep:Int
  rd:Int
  md:ByteArray
  qr:Int
  qb:Int
  qw:List ByteArray
  tr:Int
  tw:List ByteArray
  th:List Int
  ts:List Tx5
  en:Bool
  nx:List Vl
  rt:ByteArray
structure Bv where
  q:Value
  w:Value
  h:Value
  t:Value
  n:Value
def bkC (b:Bk) (v:Bv):List Value:=[.int .i64 b.id,.int .i64 b.ep,.int .i64 b.rd,.string b.md,.int .i64 b.qr,.int .i64 b.qb,v.q,.int .i64 b.tr,v.w,v.h,v.t,.bool b.en,v.n,.string b.rt]
def bkV (b:Bk) (v:Bv):Value:=.agg #[.int .i64 b.id,.int .i64 b.ep,.int .i64 b.rd,.string b.md,.int .i64 b.qr,.int .i64 b.qb,v.q,.int .i64 b.tr,v.w,v.h,v.t,.bool b.en,v.n,.string b.rt]
structure RdK (w:World) (b:Bk) (v:Bv):Prop where
  q:RdS w v.q b.qw
  p:RdS w v.w b.tw
  h:RdI w v.h b.th
  t:RdT w v.t b.ts
  n:RdV w v.n b.nx
theorem RdK.below {B:Nat} {w w':World} {b:Bk} {v:Bv} (h:RdK w b v) (hb:Below B w w') (hB:w.heap.size<=B):RdK w' b v :=
  ⟨h.q.below hb hB,h.p.below hb hB,h.h.below hb hB,h.t.below hb hB,h.n.below hb hB⟩
structure FewK (b:Bk):Prop where
  q:b.qw.length<=4000000
  w:b.tw.length<=4000000
  h:b.th.length<=4000000
  t:b.ts.length<=4000000
  n:b.nx.length<=4000000
  qs:∀ s ∈ b.qw,s.size<=maxLen
  ws:∀ s ∈ b.tw,s.size<=maxLen
  ts:∀ t ∈ b.ts,t.2.1.size<=maxLen/\t.2.2.1.size<=maxLen
  ns:∀ p ∈ b.nx,p.1.size<=maxLen
  ms:b.md.size<=maxLen
  rs:b.rt.size<=maxLen
def q9B (b:Bk):Bool:=rootB b.qr b.qb b.qw || (inB b.qr 1 (wrap64 (b.rd - 1)) && (inB b.qb 0 (wrap64 (b.id - 1)) && nmsB b.qw))
def t9B (b:Bk):Bool:=noneB b.tr b.tw b.th || (inB b.tr 1 (wrap64 (b.rd - 1)) && (nmsB b.tw && (decide (b.th.length=b.tw.length) && hisB b.tr b.th)))
def e9B (b:Bk):Bool:=if b.en=true then setB b.nx && decide (b.rt.size=32) else decide (b.nx.length=0) && decide (b.rt=⟨#[]⟩)
def blB (b:Bk):Bool:=inB b.id 0 100000 && (inB b.ep 0 900 && (inB b.rd 1 10000 && (nmB b.md && (q9B b && (t9B b && (decide (b.ts.length<=4) && (b.ts.all txB && e9B b)))))))
theorem OwnT.olderC {base:Nat} {w:World} {v:Value} {l:List Tx5} (h:OwnT base w v l) {g:Nat} (hg:g < base) (j:Nat) (u:Value):OwnT base (w.setCell ⟨g,j,none⟩ u) v l :=
  World.ownsRow.kept h (grown_set w g j u) (.inr fun e=>by have:=(h.lt g e).1;omega)
theorem OwnV.olderC {base:Nat} {w:World} {v:Value} {l:List Vl} (h:OwnV base w v l) {g:Nat} (hg:g < base) (j:Nat) (u:Value):OwnV base (w.setCell ⟨g,j,none⟩ u) v l :=
  World.ownsRow.kept h (grown_set w g j u) (.inr fun e=>by have:=h.ge g e;omega)
theorem OwnT.mono {base base':Nat} {w:World} {v:Value} {l:List Tx5} (h:OwnT base w v l) (hB:base'<=base):OwnT base' w v l:=by
  refine ⟨h.1,?_⟩
  rcases h.2 with h2 | ⟨g,cap,cur,e,hb,r⟩
  · exact .inl h2
  · exact .inr ⟨g,cap,cur,e,Nat.le_trans hB hb,r⟩
theorem OwnS.put14 {base:Nat} {w:World} {v:Value} {l:List ByteArray} (h:OwnS base w v l) {g:Nat} (hg:g < base) (y0 y1 y2 y3 y4 y5 y6 y7 y8 y9 y10 y11 y12 y13:Value):OwnS base (((((((((((((((w).setCell ⟨g,0,none⟩ (y0)).setCell ⟨g,1,none⟩ (y1)).setCell ⟨g,2,none⟩ (y2)).setCell ⟨g,3,none⟩ (y3)).setCell ⟨g,4,none⟩ (y4)).setCell ⟨g,5,none⟩ (y5)).setCell ⟨g,6,none⟩ (y6)).setCell ⟨g,7,none⟩ (y7)).setCell ⟨g,8,none⟩ (y8)).setCell ⟨g,9,none⟩ (y9)).setCell ⟨g,10,none⟩ (y10)).setCell ⟨g,11,none⟩ (y11)).setCell ⟨g,12,none⟩ (y12)).setCell ⟨g,13,none⟩ (y13)) v l:=(((((((((((((h.olderC hg 0 y0).olderC hg 1 y1).olderC hg 2 y2).olderC hg 3 y3).olderC hg 4 y4).olderC hg 5 y5).olderC hg 6 y6).olderC hg 7 y7).olderC hg 8 y8).olderC hg 9 y9).olderC hg 10 y10).olderC hg 11 y11).olderC hg 12 y12).olderC hg 13 y13
theorem OwnI.put14 {base:Nat} {w:World} {v:Value} {l:List Int} (h:OwnI base w v l) {g:Nat} (hg:g < base) (y0 y1 y2 y3 y4 y5 y6 y7 y8 y9 y10 y11 y12 y13:Value):OwnI base (((((((((((((((w).setCell ⟨g,0,none⟩ (y0)).setCell ⟨g,1,none⟩ (y1)).setCell ⟨g,2,none⟩ (y2)).setCell ⟨g,3,none⟩ (y3)).setCell ⟨g,4,none⟩ (y4)).setCell ⟨g,5,none⟩ (y5)).setCell ⟨g,6,none⟩ (y6)).setCell ⟨g,7,none⟩ (y7)).setCell ⟨g,8,none⟩ (y8)).setCell ⟨g,9,none⟩ (y9)).setCell ⟨g,10,none⟩ (y10)).setCell ⟨g,11,none⟩ (y11)).setCell ⟨g,12,none⟩ (y12)).setCell ⟨g,13,none⟩ (y13)) v l:=(((((((((((((h.olderC hg 0 y0).olderC hg 1 y1).olderC hg 2 y2).olderC hg 3 y3).olderC hg 4 y4).olderC hg 5 y5).olderC hg 6 y6).olderC hg 7 y7).olderC hg 8 y8).olderC hg 9 y9).olderC hg 10 y10).olderC hg 11 y11).olderC hg 12 y12).olderC hg 13 y13
theorem OwnT.put14 {base:Nat} {w:World} {v:Value} {l:List Tx5} (h:OwnT base w v l) {g:Nat} (hg:g < base) (y0 y1 y2 y3 y4 y5 y6 y7 y8 y9 y10 y11 y12 y13:Value):OwnT base (((((((((((((((w).setCell ⟨g,0,none⟩ (y0)).setCell ⟨g,1,none⟩ (y1)).setCell ⟨g,2,none⟩ (y2)).setCell ⟨g,3,none⟩ (y3)).setCell ⟨g,4,none⟩ (y4)).setCell ⟨g,5,none⟩ (y5)).setCell ⟨g,6,none⟩ (y6)).setCell ⟨g,7,none⟩ (y7)).setCell ⟨g,8,none⟩ (y8)).setCell ⟨g,9,none⟩ (y9)).setCell ⟨g,10,none⟩ (y10)).setCell ⟨g,11,none⟩ (y11)).setCell ⟨g,12,none⟩ (y12)).setCell ⟨g,13,none⟩ (y13)) v l:=(((((((((((((h.olderC hg 0 y0).olderC hg 1 y1).olderC hg 2 y2).olderC hg 3 y3).olderC hg 4 y4).olderC hg 5 y5).olderC hg 6 y6).olderC hg 7 y7).olderC hg 8 y8).olderC hg 9 y9).olderC hg 10 y10).olderC hg 11 y11).olderC hg 12 y12).olderC hg 13 y13
theorem OwnV.put14 {base:Nat} {w:World} {v:Value} {l:List Vl} (h:OwnV base w v l) {g:Nat} (hg:g < base) (y0 y1 y2 y3 y4 y5 y6 y7 y8 y9 y10 y11 y12 y13:Value):OwnV base (((((((((((((((w).setCell ⟨g,0,none⟩ (y0)).setCell ⟨g,1,none⟩ (y1)).setCell ⟨g,2,none⟩ (y2)).setCell ⟨g,3,none⟩ (y3)).setCell ⟨g,4,none⟩ (y4)).setCell ⟨g,5,none⟩ (y5)).setCell ⟨g,6,none⟩ (y6)).setCell ⟨g,7,none⟩ (y7)).setCell ⟨g,8,none⟩ (y8)).setCell ⟨g,9,none⟩ (y9)).setCell ⟨g,10,none⟩ (y10)).setCell ⟨g,11,none⟩ (y11)).setCell ⟨g,12,none⟩ (y12)).setCell ⟨g,13,none⟩ (y13)) v l:=(((((((((((((h.olderC hg 0 y0).olderC hg 1 y1).olderC hg 2 y2).olderC hg 3 y3).olderC hg 4 y4).olderC hg 5 y5).olderC hg 6 y6).olderC hg 7 y7).olderC hg 8 y8).olderC hg 9 y9).olderC hg 10 y10).olderC hg 11 y11).olderC hg 12 y12).olderC hg 13 y13
theorem below_put14 (W:World) (g:Nat) (y0 y1 y2 y3 y4 y5 y6 y7 y8 y9 y10 y11 y12 y13:Value):Below g W (((((((((((((((W).setCell ⟨g,0,none⟩ (y0)).setCell ⟨g,1,none⟩ (y1)).setCell ⟨g,2,none⟩ (y2)).setCell ⟨g,3,none⟩ (y3)).setCell ⟨g,4,none⟩ (y4)).setCell ⟨g,5,none⟩ (y5)).setCell ⟨g,6,none⟩ (y6)).setCell ⟨g,7,none⟩ (y7)).setCell ⟨g,8,none⟩ (y8)).setCell ⟨g,9,none⟩ (y9)).setCell ⟨g,10,none⟩ (y10)).setCell ⟨g,11,none⟩ (y11)).setCell ⟨g,12,none⟩ (y12)).setCell ⟨g,13,none⟩ (y13)):=((((((((((((((Below.refl _ W).setCell (p:=⟨g,0,none⟩) (Nat.le_refl _) y0).setCell (p:=⟨g,1,none⟩) (Nat.le_refl _) y1).setCell (p:=⟨g,2,none⟩) (Nat.le_refl _) y2).setCell (p:=⟨g,3,none⟩) (Nat.le_refl _) y3).setCell (p:=⟨g,4,none⟩) (Nat.le_refl _) y4).setCell (p:=⟨g,5,none⟩) (Nat.le_refl _) y5).setCell (p:=⟨g,6,none⟩) (Nat.le_refl _) y6).setCell (p:=⟨g,7,none⟩) (Nat.le_refl _) y7).setCell (p:=⟨g,8,none⟩) (Nat.le_refl _) y8).setCell (p:=⟨g,9,none⟩) (Nat.le_refl _) y9).setCell (p:=⟨g,10,none⟩) (Nat.le_refl _) y10).setCell (p:=⟨g,11,none⟩) (Nat.le_refl _) y11).setCell (p:=⟨g,12,none⟩) (Nat.le_refl _) y12).setCell (p:=⟨g,13,none⟩) (Nat.le_refl _) y13
structure OwnK (base:Nat) (w:World) (b:Bk) (v:Bv):Prop where
  q:OwnS base w v.q b.qw
  p:OwnS base w v.w b.tw
  h:OwnI base w v.h b.th
  t:OwnT base w v.t b.ts
  n:OwnV base w v.n b.nx
theorem OwnK.rd {base:Nat} {w:World} {b:Bk} {v:Bv} (h:OwnK base w b v):RdK w b v:=⟨h.q.rd,h.p.rd,h.h.rd,h.t.rd,h.n.rd⟩
end Go.Proofs.YtohachldbpejpaaGreatDoor
