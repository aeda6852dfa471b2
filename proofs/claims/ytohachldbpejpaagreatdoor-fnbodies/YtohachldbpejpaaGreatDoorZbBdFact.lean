/- What is made for a place is what a block there must do; the ledger at a place and the one ahead of it (plain facts). -/
import Derived.Test.YtohachldbpejpaaGreatDoorZbDrawLb
set_option maxRecDepth 20000
set_option maxHeartbeats 4000000
namespace Go.Proofs.YtohachldbpejpaaGreatDoor
open Go.RowKit
set_option linter.unusedVariables false
theorem l11Parent_any (w0 w:World) (g base:Nat) (cv:Value) (code:List UInt8) (v:Value) (l:List Bk) (hc:Cur w0 w g cv code) (hl:code.length<=1048576) (ho:OwnKs base w v l) (hg:g < base) (hl9:l.length<=100) :
    Calls Tryz.prog 58 #[.pointer (some ⟨g,0,none⟩),v] w fun en w'=>∃ p:Int,en=.returned (.int .i64 p)/\Cur w0 w' g cv code/\w.grownBy w' (some g):=by
  have hgl:=hc.lt
  obtain ⟨oa,oc,rfl⟩:=ho.rd.shape
  have HI:Hid (∀ W,Cur w0 W g cv code->Calls Tryz.prog 123 #[.pointer (some ⟨g,0,none⟩),.slice (some ⟨W.heap.size,0,none⟩) 3 3] (W.alloc (.cells #[.int .i64 (-1),.int .i64 (-1),.int .i64 9] 3)) fun e w'=>∃ n:Int,e=.returned (.int .i64 n)/\Cur w0 w' g cv code/\W.grownBy w' (some g)):=hide (fun W hC=>by
    have bI:Below W.heap.size W (W.alloc (.cells #[.int .i64 (-1),.int .i64 (-1),.int .i64 9] 3)):=(Below.refl _ W).alloc (Nat.le_refl _) _
    refine (l1Int_any w0 _ g W.heap.size cv code [-1,-1,9] (hC.below bI hC.lt) hl (ints_new W [-1,-1,9] 3) (by have:=hC.lt;omega) (by simp) (by simp) 3).mono ?_
    rintro e w' ⟨n,rfl,-,h1,h2⟩
    exact ⟨n,rfl,h1,grw_trans (grw_of_below (some g) bI (Nat.le_refl _)) h2⟩)
  have Hc:=hide hc
  have Ho:=hide ho
  clear hc ho
  by_cases hL:l=[]
  · subst hL
    go_enter Tryz.func58,Tryz.ntmps58
    go_wp2_with fail
    refine (HI.out w Hc.out).mono ?_
    rintro e w' ⟨n,rfl,h1,h2⟩
    have H1:=hide h1
    have H2:=hide h2
    clear h1 h2
    go_wp2
    go_ret
    exact ⟨n,rfl,H1.out,H2.out⟩
  · have hLp:0 < l.length:=List.length_pos_iff.2 hL
    have hLi:(0:Int) < (l.length:Int):=by omega
    have hL1:decide ((0:Int) < (l.length:Int))=true:=decide_eq_true hLi
    clear hL
    go_enter Tryz.func58,Tryz.ntmps58
    go_wp2_with fail
    refine (l1Once_any w0 w g cv code 4 Hc.out hl (by omega) (by omega)).mono ?_
    rintro e w2 ⟨o1,rfl,hc2,hg2⟩
    have HC2:=hide hc2
    have HG2:=hide hg2
    have HO2:=hide (Ho.out.notg hg2 hg)
    clear hc2 hg2 Hc Ho
    cases o1
    · go_wp2_with fail
      refine (l1Below_any w0 w2 g cv code (l.length:Int) HC2.out hl (by omega) (by omega)).mono ?_
      rintro e w3 ⟨q,rfl,hq,-,hc3,hg3⟩
      have hql:q < l.length:=by have:=hq hLi;omega
      have hqi:(q:Int) < (l.length:Int):=by omega
      have hq0:(0:Int)<=(q:Int):=by omega
      obtain ⟨b9,off9,hoa,h39,hcell⟩:=(HO2.out.notg hg3 hg).rd.parts9 hLp
      subst hoa
      obtain ⟨lv,hat,hrl⟩:=hcell q hql
      have c0:=hat.cells.1
      generalize l[q].id=td at c0
      have HC3:=hide hc3
      have HG3:=hide (grw_trans HG2.out hg3)
      clear hat hrl hcell hc3 hg3 HO2 HG2 hq
      go_wp2
      go_ret
      exact ⟨td,rfl,HC3.out,HG3.out⟩
    · go_wp2_with fail
      refine (HI.out w2 HC2.out).mono ?_
      rintro e w' ⟨n,rfl,h1,h2⟩
      have H1:=hide h1
      have H2:=hide (grw_trans HG2.out h2)
      clear h1 h2
      go_wp2
      go_ret
      exact ⟨n,rfl,H1.out,H2.out⟩
structure Lc (w0 w W:World) (g BL base:Nat) (cv:Value) (code:List UInt8) (e:Int) (u:Value) (Z:List (Ac × Value)) (v:Value) (L:List Bk):Prop where
  r:Blk W w.heap.size 26 [.int .i64 0,.slice none 0 0]
  k:Blk W BL 26 [.int .i64 e,u]
  d:DrA base W u Z
  o:OwnKs base W v L
  cur:Cur w0 W g cv code
  gl:g < base
  lo:w.heap.size < g
  hi:base<=BL
  b:Below w.heap.size w w0
theorem Lc.call {w0 w W W':World} {g BL base:Nat} {cv:Value} {code:List UInt8} {e:Int} {u:Value} {Z:List (Ac × Value)} {v:Value} {L:List Bk} (h:Lc w0 w W g BL base cv code e u Z v L) (hc:Cur w0 W' g cv code) (hg:W.grownBy W' (some g)):Lc w0 w W' g BL base cv code e u Z v L:=by
  have h1:=h.gl
  have h2:=h.lo
  have h3:=h.hi
  exact ⟨blk_notgR h.r hg (by omega),blk_notgR h.k hg (by omega),h.d.notg hg (by omega),h.o.notg hg (by omega),hc,h1,h2,h3,h.b⟩
theorem Lc.fin {w0 w W:World} {g BL base:Nat} {cv:Value} {code:List UInt8} {e:Int} {u:Value} {Z:List (Ac × Value)} {v:Value} {L:List Bk} (h:Lc w0 w W g BL base cv code e u Z v L) (y0 y1:Value) :
    RdA ((W.setCell ⟨w.heap.size,0,none⟩ y0).setCell ⟨w.heap.size,1,none⟩ y1) u (Z.map (·.1))/\RdKs ((W.setCell ⟨w.heap.size,0,none⟩ y0).setCell ⟨w.heap.size,1,none⟩ y1) v L/\Below w.heap.size w ((W.setCell ⟨w.heap.size,0,none⟩ y0).setCell ⟨w.heap.size,1,none⟩ y1):=by
  have h1:=h.gl
  have h2:=h.lo
  have gs0:=grown_set W w.heap.size 0 y0
  have gs1:=grown_set (W.setCell ⟨w.heap.size,0,none⟩ y0) w.heap.size 1 y1
  refine ⟨((h.d.notg gs0 (by omega)).notg gs1 (by omega)).rd,((h.o.notg gs0 (by omega)).notg gs1 (by omega)).rd,?_⟩
  exact ((h.b.trans (h.cur.bel.mono h.b.size)).setCell (p:=⟨w.heap.size,0,none⟩) (Nat.le_refl _) y0).setCell (p:=⟨w.heap.size,1,none⟩) (Nat.le_refl _) y1
theorem Lc.txs {w0 w W:World} {g BL base B2:Nat} {cv:Value} {code:List UInt8} {e:Int} {u:Value} {Z:List (Ac × Value)} {v:Value} {L:List Bk} (h:Lc w0 w W g BL base cv code e u Z v L) {x:Value} {ts:List Tx5} (o:OwnT B2 W x ts) (hB:w.heap.size < B2) (y0 y1:Value):RdT ((W.setCell ⟨w.heap.size,0,none⟩ y0).setCell ⟨w.heap.size,1,none⟩ y1) x ts :=
  ((o.notg (grown_set W w.heap.size 0 y0) hB).notg (grown_set (W.setCell ⟨w.heap.size,0,none⟩ y0) w.heap.size 1 y1) hB).rd
theorem drawMakeBody_any (w:World) (cv:Value) (code:List UInt8) (hr:RdB w cv code) (hl:code.length<=1048576) :
    Calls Tryz.prog 16 #[cv] w fun en w'=>∃ (e:Int) (u:Value) (z:List Ac) (v:Value) (l:List Bk) (id:Int) (x:Value) (ts:List Tx5),en=.returned (.tuple #[lgV e u,v,.int .i64 id,x])/\RdA w' u z/\FwA z/\RdKs w' v l/\treeB l=true/\l.length<=100/\(∀ x ∈ l,DtK x)/\RdT w' x ts/\ts.length<=8/\(∀ x ∈ ts,x.2.1.size<=9/\x.2.2.1.size<=9)/\Below w.heap.size w w':=by
  obtain ⟨w1,hw1⟩:∃ w1,w.alloc (.cells #[.int .i64 0,.slice none 0 0] 26)=w1:=⟨_,rfl⟩
  have b1:Below w.heap.size w w1:=by rw [<- hw1];exact (Below.refl _ w).alloc (Nat.le_refl _) _
  have k1:Blk w1 w.heap.size 26 [.int .i64 0,.slice none 0 0]:=by rw [<- hw1];exact Blk.new w _ _
  have s1:w1.heap.size=w.heap.size+1:=by rw [<- hw1];simp
  have hr1:=hr.below b1 (Nat.le_refl _)
  have HN:=hide (l1New_any w1 cv code hr1 hl)
  obtain ⟨a,c,rfl⟩:∃ a c,cv=.slice a code.length c:=by
    rcases hr with ⟨a,c,h1,h2,-⟩ | ⟨b,off,c,h0,h1,_⟩
    · subst h2;exact ⟨a,c,h1⟩
    · exact ⟨_,c,h1⟩
  have K1:=hide k1
  have B1:=hide b1
  have S1:=hide s1
  clear hr hr1 k1 b1 s1
  go_enter Tryz.func16,Tryz.ntmps16
  go_wp2_with fail
  refine HN.out.mono ?_
  rintro en w2 ⟨rfl,hc2,hb2⟩
  have hgl:w1.heap.size < w2.heap.size:=hc2.lt
  have K2:=hide (K1.out.below hb2 K1.out.lt)
  clear hw1 HN K1 hb2
  go_wp2_with fail
  refine (l11Draw_any w1 w2 w1.heap.size _ code 5 hc2 hl (by omega)).mono ?_
  rintro en w3 ⟨e,u,Z,v,l,rfl,hd3,hs3,ho3,htb,hl9,hdt,hc3,hg3⟩
  unfold lgV
  obtain ⟨⟨GA,zc,rfl⟩,-⟩:=id hd3
  obtain ⟨oa,oc,rfl⟩:=ho3.rd.shape
  have z3:=hg3.size
  obtain ⟨w4,hw4⟩:∃ x,w3.alloc (.cells #[.int .i64 e,.slice (some ⟨GA,0,none⟩) Z.length zc] 26)=x:=⟨_,rfl⟩
  have b4:Below w3.heap.size w3 w4:=by rw [<- hw4];exact (Below.refl _ w3).alloc (Nat.le_refl _) _
  have g4:Blk w4 w3.heap.size 26 [.int .i64 e,.slice (some ⟨GA,0,none⟩) Z.length zc]:=by rw [<- hw4];exact Blk.new w3 _ _
  have s1:=S1.out
  have HL4:Hid (Lc w1 w w4 w1.heap.size w3.heap.size w2.heap.size (.slice a code.length c) code e (.slice (some ⟨GA,0,none⟩) Z.length zc) Z (.slice oa l.length oc) l):=hide
    ⟨(blk_notgR K2.out hg3 (by omega)).below b4 (by omega),g4,hd3.below b4 (Nat.le_refl _),(ho3.below b4 (Nat.le_refl _)),hc3.below b4 hc3.lt,hgl,by omega,z3,B1.out⟩
  have HSm:=hide hs3
  have Htb:=hide htb
  have Hdt:=hide hdt
  clear hd3 hs3 ho3 hc2 hc3 hg3 b4 g4 K2 htb hdt z3 s1 B1
  go_wp2_with fail
  (try rw [hw4])
  refine (l11Parent_any w1 w4 w1.heap.size w2.heap.size _ code _ l HL4.out.cur hl HL4.out.o hgl hl9).mono ?_
  rintro en w7 ⟨p,rfl,hc7,hg7⟩
  have hL7:=HL4.out.call hc7 hg7
  have HL7:=hide hL7
  have hS00:=hL7.k.cell 0
  have hS01:=hL7.k.cell 1
  clear hw4 hc7 hg7 HL4 hL7 hS00 hS01
  have HFw:=hide (smallZ_fw HSm.out)
  have HZ:=hide (few_fit (smallZ_fw HSm.out))
  have HFew:Hid (∀ b ∈ l,FewK b):=hide (fun x hx=>(Hdt.out x hx).few)
  have HS:Hid (∀ W,w7.grownBy W (some w1.heap.size)->(W.cell? ⟨w3.heap.size,0,none⟩=some (.int .i64 e)/\W.cell? ⟨w3.heap.size,1,none⟩=some (.slice (some ⟨GA,0,none⟩) Z.length zc))):=hide (fun W hW=>by
    have a1:=blk_notgR HL7.out.k hW (by have:=HL7.out.gl;have:=HL7.out.hi;omega)
    exact ⟨a1.cell 0,a1.cell 1⟩)
  have HAt:Hid (∀ W,w7.grownBy W (some w1.heap.size)->Cur w1 W w1.heap.size (.slice a code.length c) code->Calls Tryz.prog 59 #[.agg #[.int .i64 e,.slice (some ⟨GA,0,none⟩) Z.length zc],.slice oa l.length oc,.int .i64 p] W fun en w'=>∃ v',en=.returned (.agg #[.int .i64 e,v'])/\OwnA W.heap.size w' v' (foL e (Z.map (fun q:Ac × Value=>q.1)) l (chA l p))/\Below W.heap.size W w'):=hide (fun W hW hC=>specL11At_any e (.slice (some ⟨GA,0,none⟩) Z.length zc) (.slice oa l.length oc) (Z.map (fun q:Ac × Value=>q.1)) l p W ((HL7.out.call hC hW).d.rd) (HL7.out.call hC hW).o.rd HZ.out.1 HZ.out.2 (by omega) HFew.out (treeP_of Htb.out))
  have HTx:Hid (∀ W (v1:Value),Cur w1 W w1.heap.size (.slice a code.length c) code->Sty w1.heap.size W v1 (foL e (Z.map (fun q:Ac × Value=>q.1)) l (chA l p))->Calls Tryz.prog 48 #[.pointer (some ⟨w1.heap.size,0,none⟩),.agg #[.int .i64 e,v1],.int .i64 8] W fun en w'=>DrO w1 W w1.heap.size (.slice a code.length c) code 8 en w'):=hide (fun W v1 hC hs=>l6Txs_any w1 W w1.heap.size _ code e v1 (foL e (Z.map (fun q:Ac × Value=>q.1)) l (chA l p)) 8 hC hl hs (HFw.out.fo l (chA l p)) (by omega))
  have gD:w7.grownBy w7.drew (some w1.heap.size):=⟨rfl,rfl,rfl,Nat.le_refl _,fun _ _ _=>rfl⟩
  have cD:Cur w1 w7.drew w1.heap.size (.slice a code.length c) code:=HL7.out.cur.drew
  have hS0:=HS.out _ gD
  have lD:w1.heap.size < w7.drew.heap.size:=cD.lt
  have s1:=S1.out
  have HS1:=S1
  clear s1
  go_wp2
  go_region_held_law (fun w'=>w'.cell? ⟨w3.heap.size,0,none⟩=some (.int .i64 e)/\w'.cell? ⟨w3.heap.size,1,none⟩=some (.slice (some ⟨GA,0,none⟩) Z.length zc)) (first | with_reducible exact hS0 | with_reducible exact hS1 | with_reducible exact hS2 | with_reducible exact hS3 | with_reducible exact hS4) ((first
    | (go_at_call 48;(with_reducible refine (HTx.out w8 _ c1 s1).mono ?_);rintro en w9 ⟨v2,ts,rfl,o2,h4,h9,c2,g12⟩;obtain ⟨a2,cc2,hv2⟩:=o2.rd.shape;subst hv2;have g2:=grw_trans g1 g12;have hS2:=HS.out _ g2;have L9:=hide (HL7.out.call c2 g2);have O9:=hide o2;have p0:=L9.out.r.cell 0;have p1:=L9.out.r.cell 1;have f0:=L9.out.r.frozen 0;have f1:=L9.out.r.frozen 1;simp only [List.getElem?_cons_zero,List.getElem?_cons_succ] at p0 p1;have hne9:w3.heap.size ≠ w.heap.size:=(by have:=L9.out.lo;have:=L9.out.gl;have:=L9.out.hi;omega);have k3:=L9.out.k.otherC w.heap.size 0 (.int .i64 e) hne9;have hS3:(w9.setCell ⟨w.heap.size,0,none⟩ (.int .i64 e)).cell? ⟨w3.heap.size,0,none⟩=some (.int .i64 e)/\(w9.setCell ⟨w.heap.size,0,none⟩ (.int .i64 e)).cell? ⟨w3.heap.size,1,none⟩=some (.slice (some ⟨GA,0,none⟩) Z.length zc):=⟨k3.cell 0,k3.cell 1⟩;have k4:=k3.otherC w.heap.size 1 (.slice (some ⟨GA,0,none⟩) Z.length zc) hne9;have hS4:((w9.setCell ⟨w.heap.size,0,none⟩ (.int .i64 e)).setCell ⟨w.heap.size,1,none⟩ (.slice (some ⟨GA,0,none⟩) Z.length zc)).cell? ⟨w3.heap.size,0,none⟩=some (.int .i64 e)/\((w9.setCell ⟨w.heap.size,0,none⟩ (.int .i64 e)).setCell ⟨w.heap.size,1,none⟩ (.slice (some ⟨GA,0,none⟩) Z.length zc)).cell? ⟨w3.heap.size,1,none⟩=some (.slice (some ⟨GA,0,none⟩) Z.length zc):=⟨k4.cell 0,k4.cell 1⟩)
    | (go_at_call 59;(with_reducible refine (HAt.out w7.drew gD cD).mono ?_);rintro en w8 ⟨v1,rfl,o1,hb1⟩;obtain ⟨a1,cc1,hv1⟩:=o1.rd.shape;subst hv1;have g1:=grw_trans gD (grw_of_below (some w1.heap.size) hb1 (Nat.le_refl _));have c1:=cD.below hb1 lD;have hS1:=HS.out _ g1;have s1:=o1.styg (g:=w1.heap.size) lD;have z8:w.heap.size < w8.heap.size:=(by have:=S1.out;have:=hb1.size;omega))))
  have HF:=hide (L9.out.fin (.int .i64 e) (.slice (some ⟨GA,0,none⟩) Z.length zc))
  have HT:=hide (L9.out.txs O9.out z8 (.int .i64 e) (.slice (some ⟨GA,0,none⟩) Z.length zc))
  have H8:=hide h4
  have H9:=hide h9
  clear L9 O9 hS0 hS1 hS2 hS3 hS4 o1 o2 h4 h9 k3 k4
  go_wp2
  refine bodyPost_ret (v:=.tuple #[.agg #[.int .i64 e,.slice (some ⟨GA,0,none⟩) Z.length zc],.slice oa l.length oc,.int .i64 p,.slice a2 ts.length cc2]) (by simp [results,Tryz.f16,go_sem,p0,p1]) rfl ?_
  exact ⟨e,_,_,_,l,p,_,ts,rfl,HF.out.1,HFw.out,HF.out.2.1,Htb.out,hl9,Hdt.out,HT.out,H8.out,H9.out,HF.out.2.2⟩
def boR (b:Bk) (R:Bd × Bool):Bool:=R.2 && (decide (b.ts=R.1.ts) && (decide (b.en=R.1.en) && (decide (b.nx=R.1.nx) && decide (b.rt=R.1.rt))))
def boB (e:Int) (z:List Ac) (l:List Bk) (b:Bk):Bool:=boR b (bdA e z l b.qb b.ts b.ts.length)
structure Gave (t:Tx5) (a b:Ac):Prop where
  bf:0<=a.2.1/\a.2.1<=1000000
  bn:0<=a.2.2.1/\a.2.2.1<=10000
  bs:0<=a.2.2.2.1/\a.2.2.2.1<=1000000
  bm:1<=t.2.2.2.1/\t.2.2.2.1<=1000000
  nonce:b.2.2.1=a.2.2.1+1
  bond:t.1=2->b.2.2.2.1=a.2.2.2.1+t.2.2.2.1/\b.2.1=a.2.1 - t.2.2.2.1
  unbond:t.1=3->b.2.2.2.1=a.2.2.2.1 - t.2.2.2.1/\b.2.1=a.2.1
  pay:t.1 ≠ 2->t.1 ≠ 3->(t.2.2.1 ≠ t.2.1->b.2.1=a.2.1 - t.2.2.2.1)/\b.2.2.2.1=a.2.2.2.1
theorem gd_again {e:Int} {most:Nat}:∀ (ts:List Tx5) (s:List Ac × List Tx5),∃ G,(ts.foldl (gdS e most) s).2=s.2 ++ G/\∀ (m:Nat) (acc:List Tx5),acc.length+G.length<=m->G.foldl (gdS e m) (s.1,acc)=((ts.foldl (gdS e most) s).1,acc ++ G)
  | [],s=>⟨[],by simp,fun m acc _=>by simp⟩
  | t :: ts,s=>by
    rw [List.foldl_cons]
    by_cases h1:s.2.length=most
    · rw [gdS_full h1];exact gd_again ts s
    · by_cases h2:(apA e s.1 t).2=0
      · rw [gdS_good h1 h2]
        obtain ⟨G,q1,q2⟩:=gd_again (e:=e) (most:=most) ts ((apA e s.1 t).1,s.2 ++ [t])
        refine ⟨t :: G,by rw [q1];simp,fun m acc hm=>?_⟩
        rw [List.length_cons] at hm
        rw [List.foldl_cons,gdS_good (s:=(s.1,acc)) (show acc.length ≠ m by omega) h2]
        have:=q2 m (acc ++ [t]) (by simp;omega)
        rw [this]
        simp
      · rw [gdS_bad h1 h2];exact gd_again ts s
theorem gdA_again (e:Int) (l:List Ac) (ts:List Tx5) (most:Nat):gdA e l (gdA e l ts most).2 (gdA e l ts most).2.length=gdA e l ts most:=by
  obtain ⟨G,q1,q2⟩:=gd_again (e:=e) (most:=most) ts (l,[])
  have q3:(gdA e l ts most).2=G:=by unfold gdA;rw [q1];rfl
  rw [q3]
  have:=q2 G.length [] (by simp)
  unfold gdA at q3 ⊢
  rw [this,List.nil_append,<- q3]
theorem bdC_again (e:Int) (z:List Ac) (l:List Bk) (C:List Nat) (ts:List Tx5) (most:Nat):bdC e z l C (bdC e z l C ts most).ts (bdC e z l C ts most).ts.length=bdC e z l C ts most:=by
  by_cases ha:C.any (enAt l)=true
  · unfold bdC
    rw [if_pos ha]
    simp only [if_pos ha]
  · have h1:=bdC_x (e:=e) (z:=z) (l:=l) (C:=C) (ts:=ts) (most:=most) ha
    by_cases hc:C.length=1
    · rw [h1.1 hc]
      simp only
      rw [(bdC_x (e:=e) (z:=z) (l:=l) (C:=C) (ts:=(gdA e (foL e z l C) ts most).2) (most:=(gdA e (foL e z l C) ts most).2.length) ha).1 hc,gdA_again]
    · rw [h1.2 hc]
      simp only
      rw [(bdC_x (e:=e) (z:=z) (l:=l) (C:=C) (ts:=(gdA e (foL e z l C) ts most).2) (most:=(gdA e (foL e z l C) ts most).2.length) ha).2 hc,gdA_again]
theorem bo_made {e:Int} {z:List Ac} {l:List Bk} {id:Int} {ts:List Tx5} {most:Nat} {b:Bk} (hq:b.qb=id) (h1:b.ts=(bdA e z l id ts most).1.ts) (h2:b.en=(bdA e z l id ts most).1.en) (h3:b.nx=(bdA e z l id ts most).1.nx) (h4:b.rt=(bdA e z l id ts most).1.rt):boB e z l b=(bdA e z l id ts most).2:=by
  unfold boB
  rw [hq]
  unfold bdA at h1 h2 h3 h4 ⊢
  split
  · rename_i hc
    rw [if_pos hc] at h1 h2 h3 h4
    simp only at h1 h2 h3 h4
    unfold boR
    rw [h2,h3,h4]
    simp only
    rw [h1,bdC_again]
    simp
  · rfl
theorem bd_none {e:Int} {z:List Ac} {l:List Bk} {id:Int} {ts:List Tx5} {most:Nat} (h:id ≠ -1) (ha:atI l id < 0):bdA e z l id ts most=(⟨[],false,[],{ data:=#[] }⟩,false):=by
  unfold bdA
  refine if_neg (fun k=>h (k.2 ?_))
  unfold chT
  rw [if_pos k.1,chA_none ha]
theorem bd_there {e:Int} {z:List Ac} {l:List Bk} {id:Int} {ts:List Tx5} {most:Nat} (ht:treeB l=true) (h:id=-1\/0<=atI l id):(bdA e z l id ts most).2=true:=by
  unfold bdA
  rw [if_pos]
  refine ⟨ht,fun k=>?_⟩
  rcases h with h | h
  · exact h
  · have:=chT_pos l id
    rw [k,ht,decide_eq_true h] at this
    simp at this
theorem bd_ended {e:Int} {z:List Ac} {l:List Bk} {id:Int} {ts:List Tx5} {most:Nat} (h:enB l id=true):(bdA e z l id ts most).1.ts=[]:=by
  unfold bdA
  split
  · show (bdC e z l (chT l id) ts most).ts=[]
    unfold enB at h
    unfold bdC
    rw [if_pos h]
  · rfl
end Go.Proofs.YtohachldbpejpaaGreatDoor
