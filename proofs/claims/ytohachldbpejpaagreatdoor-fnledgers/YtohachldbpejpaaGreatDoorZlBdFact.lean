/- What is made for a place is what a block there must do; the ledger at a place and the one ahead of it (plain facts). -/
import Derived.Test.YtohachldbpejpaaGreatDoorZlDrawLb
set_option maxRecDepth 20000
set_option maxHeartbeats 4000000
namespace Go.Proofs.YtohachldbpejpaaGreatDoor
open Go.RowKit
set_option linter.unusedVariables false
theorem l10Id_any (w0 w:World) (g:Nat) (cv:Value) (code:List UInt8) (hc:Cur w0 w g cv code) (hl:code.length<=1048576) :
    Calls Tryz.prog 69 #[.pointer (some ⟨g,0,none⟩)] w fun en w'=>∃ p:Int,en=.returned (.int .i64 p)/\Cur w0 w' g cv code/\w.grownBy w' (some g):=by
  have hgl:=hc.lt
  have bI:Below w.heap.size w (w.alloc (.cells #[.int .i64 0,.int .i64 1,.int .i64 2,.int .i64 3,.int .i64 4,.int .i64 (-1),.int .i64 5,.int .i64 7] 3)):=(Below.refl _ w).alloc (Nat.le_refl _) _
  have HI:=hide (l1Int_any w0 _ g w.heap.size cv code [0,1,2,3,4,-1,5,7] (hc.below bI hc.lt) hl (ints_new w [0,1,2,3,4,-1,5,7] 3) (by omega) (by simp) (by simp) 8)
  have HB:=hide bI
  clear hc bI
  go_enter Tryz.func69,Tryz.ntmps69
  go_wp2_with fail
  refine HI.out.mono ?_
  rintro e w' ⟨n,rfl,-,h1,h2⟩
  have H1:=hide h1
  have H2:=hide (grw_trans (grw_of_below (some g) HB.out (Nat.le_refl _)) h2)
  clear h1 h2
  go_wp2
  go_ret
  exact ⟨n,rfl,H1.out,H2.out⟩
structure Lc (w0 w W:World) (g BL base:Nat) (cv:Value) (code:List UInt8) (e:Int) (u:Value) (Z:List (Ac × Value)) (v:Value) (L:List Bk):Prop where
  r:Blk W w.heap.size 26 [.int .i64 0,.slice none 0 0]
  k:Blk W BL 26 [.int .i64 e,u]
  d:DrA base W u Z
  o:OwnKs base W v L
  cur:Cur w0 W g cv code
  gl:g < base
  lo:w.heap.size < g
  hi:base<=BL
  b:Below w.heap.size w w0
theorem Lc.call {w0 w W W':World} {g BL base:Nat} {cv:Value} {code:List UInt8} {e:Int} {u:Value} {Z:List (Ac × Value)} {v:Value} {L:List Bk} (h:Lc w0 w W g BL base cv code e u Z v L) (hc:Cur w0 W' g cv code) (hg:W.grownBy W' (some g)):Lc w0 w W' g BL base cv code e u Z v L:=by
  have h1:=h.gl
  have h2:=h.lo
  have h3:=h.hi
  exact ⟨blk_notgR h.r hg (by omega),blk_notgR h.k hg (by omega),h.d.notg hg (by omega),h.o.notg hg (by omega),hc,h1,h2,h3,h.b⟩
theorem Lc.fin {w0 w W:World} {g BL base:Nat} {cv:Value} {code:List UInt8} {e:Int} {u:Value} {Z:List (Ac × Value)} {v:Value} {L:List Bk} (h:Lc w0 w W g BL base cv code e u Z v L) (y0 y1:Value) :
    RdA ((W.setCell ⟨w.heap.size,0,none⟩ y0).setCell ⟨w.heap.size,1,none⟩ y1) u (Z.map (·.1))/\RdKs ((W.setCell ⟨w.heap.size,0,none⟩ y0).setCell ⟨w.heap.size,1,none⟩ y1) v L/\Below w.heap.size w ((W.setCell ⟨w.heap.size,0,none⟩ y0).setCell ⟨w.heap.size,1,none⟩ y1):=by
  have h1:=h.gl
  have h2:=h.lo
  have gs0:=grown_set W w.heap.size 0 y0
  have gs1:=grown_set (W.setCell ⟨w.heap.size,0,none⟩ y0) w.heap.size 1 y1
  refine ⟨((h.d.notg gs0 (by omega)).notg gs1 (by omega)).rd,((h.o.notg gs0 (by omega)).notg gs1 (by omega)).rd,?_⟩
  exact ((h.b.trans (h.cur.bel.mono h.b.size)).setCell (p:=⟨w.heap.size,0,none⟩) (Nat.le_refl _) y0).setCell (p:=⟨w.heap.size,1,none⟩) (Nat.le_refl _) y1
theorem drawLedgerAt_any (w:World) (cv:Value) (code:List UInt8) (hr:RdB w cv code) (hl:code.length<=1048576) :
    Calls Tryz.prog 21 #[cv] w fun en w'=>∃ (e:Int) (u:Value) (z:List Ac) (v:Value) (l:List Bk) (id:Int),en=.returned (.tuple #[lgV e u,v,.int .i64 id])/\RdA w' u z/\FwA z/\RdKs w' v l/\treeB l=true/\l.length<=100/\(∀ x ∈ l,DtK x)/\Below w.heap.size w w':=by
  obtain ⟨w1,hw1⟩:∃ w1,w.alloc (.cells #[.int .i64 0,.slice none 0 0] 26)=w1:=⟨_,rfl⟩
  have b1:Below w.heap.size w w1:=by rw [<- hw1];exact (Below.refl _ w).alloc (Nat.le_refl _) _
  have k1:Blk w1 w.heap.size 26 [.int .i64 0,.slice none 0 0]:=by rw [<- hw1];exact Blk.new w _ _
  have s1:w1.heap.size=w.heap.size+1:=by rw [<- hw1];simp
  have hr1:=hr.below b1 (Nat.le_refl _)
  have HN:=hide (l1New_any w1 cv code hr1 hl)
  obtain ⟨a,c,rfl⟩:∃ a c,cv=.slice a code.length c:=by
    rcases hr with ⟨a,c,h1,h2,-⟩ | ⟨b,off,c,h0,h1,_⟩
    · subst h2;exact ⟨a,c,h1⟩
    · exact ⟨_,c,h1⟩
  have K1:=hide k1
  have B1:=hide b1
  have S1:=hide s1
  clear hr hr1 k1 b1 s1
  go_enter Tryz.func21,Tryz.ntmps21
  go_wp2_with fail
  refine HN.out.mono ?_
  rintro en w2 ⟨rfl,hc2,hb2⟩
  have hgl:w1.heap.size < w2.heap.size:=hc2.lt
  have K2:=hide (K1.out.below hb2 K1.out.lt)
  clear hw1 HN K1 hb2
  go_wp2_with fail
  refine (l11Draw_any w1 w2 w1.heap.size _ code 7 hc2 hl (by omega)).mono ?_
  rintro en w3 ⟨e,u,Z,v,l,rfl,hd3,hs3,ho3,htb,hl9,hdt,hc3,hg3⟩
  unfold lgV
  obtain ⟨⟨GA,zc,rfl⟩,-⟩:=id hd3
  obtain ⟨oa,oc,rfl⟩:=ho3.rd.shape
  have z3:=hg3.size
  obtain ⟨w4,hw4⟩:∃ x,w3.alloc (.cells #[.int .i64 e,.slice (some ⟨GA,0,none⟩) Z.length zc] 26)=x:=⟨_,rfl⟩
  have b4:Below w3.heap.size w3 w4:=by rw [<- hw4];exact (Below.refl _ w3).alloc (Nat.le_refl _) _
  have g4:Blk w4 w3.heap.size 26 [.int .i64 e,.slice (some ⟨GA,0,none⟩) Z.length zc]:=by rw [<- hw4];exact Blk.new w3 _ _
  have s1:=S1.out
  have HL4:Hid (Lc w1 w w4 w1.heap.size w3.heap.size w2.heap.size (.slice a code.length c) code e (.slice (some ⟨GA,0,none⟩) Z.length zc) Z (.slice oa l.length oc) l):=hide
    ⟨(blk_notgR K2.out hg3 (by omega)).below b4 (by omega),g4,hd3.below b4 (Nat.le_refl _),(ho3.below b4 (Nat.le_refl _)),hc3.below b4 hc3.lt,hgl,by omega,z3,B1.out⟩
  have HSm:=hide hs3
  have Htb:=hide htb
  have Hdt:=hide hdt
  clear hd3 hs3 ho3 hc2 hc3 hg3 b4 g4 K2 htb hdt z3 s1 B1
  go_upto_region 3 with fail
  (try rw [hw4])
  go_cut [22] from 15 (fun bv wc=>∃ bb:Bool,bv=.bool bb/\(bb=true->0 < l.length)/\Lc w1 w wc w1.heap.size w3.heap.size w2.heap.size (.slice a code.length c) code e (.slice (some ⟨GA,0,none⟩) Z.length zc) Z (.slice oa l.length oc) l)
  case first =>
    by_cases hL:l=[]
    · subst hL
      go_wp2
      go_meet
      exact ⟨false,rfl,by simp,HL4.out⟩
    · have hL1:decide ((0:Int) < (l.length:Int))=true:=decide_eq_true (by have:=List.length_pos_iff.2 hL;omega)
      have hLp:0 < l.length:=List.length_pos_iff.2 hL
      clear hL
      go_wp2_with fail
      refine (l1Once_any w1 w4 w1.heap.size _ code 4 HL4.out.cur hl (by omega) (by omega)).mono ?_
      rintro en w7 ⟨o1,rfl,hc7,hg7⟩
      have HL7:=hide (HL4.out.call hc7 hg7)
      clear hc7 hg7
      go_wp2
      go_meet
      exact ⟨_,rfl,fun _=>hLp,HL7.out⟩
  case rest =>
  obtain ⟨bb,rfl,hbb,hL7⟩:=hcut
  obtain ⟨w7,hw7⟩:∃ x,x=wc:=⟨_,rfl⟩
  subst hw7
  have HL7:=hide hL7
  clear hw4
  have q0:=hL7.k.cell 0
  have q1:=hL7.k.cell 1
  simp only [List.getElem?_cons_zero,List.getElem?_cons_succ] at q0 q1
  clear hL7 HL4
  have HFw:=hide (smallZ_fw HSm.out)
  cases bb
  · go_wp2
    go_region_law ((go_simp;go_at_call 69;refine (l10Id_any w1 _ w1.heap.size _ code (by first | exact HL7.out.cur.drew | exact HL7.out.cur) hl).mono ?_;rintro en w8 ⟨td,rfl,hc8,hg8⟩;have L8:=hide (HL7.out.call hc8 (grw_trans (grw_drewN ⟨rfl,rfl,rfl,Nat.le_refl _,fun _ _ _=>rfl⟩ 1) hg8));have p0:=L8.out.r.cell 0;have p1:=L8.out.r.cell 1;have f0:=L8.out.r.frozen 0;have f1:=L8.out.r.frozen 1;have t0:=L8.out.k.cell 0;have t1:=L8.out.k.cell 1;simp only [List.getElem?_cons_zero,List.getElem?_cons_succ] at p0 p1 t0 t1))
    all_goals
      have HF:=hide (L8.out.fin (.int .i64 e) (.slice (some ⟨GA,0,none⟩) Z.length zc))
      clear L8
      go_wp2
      refine bodyPost_ret (v:=.tuple #[.agg #[.int .i64 e,.slice (some ⟨GA,0,none⟩) Z.length zc],.slice oa l.length oc,.int .i64 td]) (by simp [results,Tryz.f21,go_sem,p0,p1]) rfl ?_
      exact ⟨e,_,_,_,l,td,rfl,HF.out.1,HFw.out,HF.out.2.1,Htb.out,hl9,Hdt.out,HF.out.2.2⟩
  · have hLp:0 < l.length:=hbb rfl
    have hLi:(0:Int) < (l.length:Int):=by omega
    have HLB:=hide (fun W (hC:Cur w1 W w1.heap.size (.slice a code.length c) code)=>l1Below_any w1 W w1.heap.size _ code (l.length:Int) hC hl (by omega) (by omega))
    clear hbb
    go_wp2
    go_region_law ((go_simp;go_at_call 68;refine (HLB.out _ (by first | exact HL7.out.cur.drew | exact HL7.out.cur)).mono ?_;rintro en w8 ⟨q,rfl,hq,-,hc8,hg8⟩;have hql:q < l.length:=(by have:=hq hLi;omega);have hqi:(q:Int) < (l.length:Int):=(by omega);have hq00:(0:Int)<=(q:Int):=(by omega);have L8:=hide (HL7.out.call hc8 (grw_trans (grw_drewN ⟨rfl,rfl,rfl,Nat.le_refl _,fun _ _ _=>rfl⟩ 1) hg8));obtain ⟨b9,off9,hoa,h39,hcell⟩:=L8.out.o.rd.parts9 hLp;subst hoa;obtain ⟨lv,hat,hrl⟩:=hcell q hql;have c0:=hat.cells.1;clear hrl hat hcell;obtain ⟨b8,off8,e8,h38,hcell8⟩:=(L8.out.fin (.int .i64 e) (.slice (some ⟨GA,0,none⟩) Z.length zc)).2.1.parts9 hLp;simp only [Option.some.injEq,Addr.mk.injEq,and_true] at e8;obtain ⟨rfl,rfl⟩:=e8;obtain ⟨lv8,hat8,-⟩:=hcell8 q hql;have c0s:=hat8.cells.1;clear hat8 hcell8;generalize l[q].id=td at c0 c0s;have p0:=L8.out.r.cell 0;have p1:=L8.out.r.cell 1;have f0:=L8.out.r.frozen 0;have f1:=L8.out.r.frozen 1;have t0:=L8.out.k.cell 0;have t1:=L8.out.k.cell 1;simp only [List.getElem?_cons_zero,List.getElem?_cons_succ] at p0 p1 t0 t1))
    all_goals
      have HF:=hide (L8.out.fin (.int .i64 e) (.slice (some ⟨GA,0,none⟩) Z.length zc))
      clear L8
      go_wp2
      refine bodyPost_ret (v:=.tuple #[.agg #[.int .i64 e,.slice (some ⟨GA,0,none⟩) Z.length zc],.slice (some ⟨b9,off9,none⟩) l.length oc,.int .i64 td]) (by simp [results,Tryz.f21,go_sem,p0,p1]) rfl ?_
      exact ⟨e,_,_,_,l,td,rfl,HF.out.1,HFw.out,HF.out.2.1,Htb.out,hl9,Hdt.out,HF.out.2.2⟩
def boR (b:Bk) (R:Bd × Bool):Bool:=R.2 && (decide (b.ts=R.1.ts) && (decide (b.en=R.1.en) && (decide (b.nx=R.1.nx) && decide (b.rt=R.1.rt))))
def boB (e:Int) (z:List Ac) (l:List Bk) (b:Bk):Bool:=boR b (bdA e z l b.qb b.ts b.ts.length)
theorem amI_lvP (n t:Int):∀ l:List (Int × Int),(∀ p ∈ l,0<=p.1/\p.1<=1000000)->(0<=n/\n<=1000000)->amI (lvP n t l)=amI l+n
  | [],_,_=>by simp [lvP,amI]
  | x :: r,h,hn=>by
    have hx:=h x List.mem_cons_self
    have ih:=amI_lvP n t r (fun p hp=>h p (List.mem_cons_of_mem _ hp)) hn
    rw [lvP]
    by_cases e1:x.2=t
    · rw [if_pos e1,show wrap64 (x.1+n)=x.1+n from by unfold wrap64;omega]
      simp only [amI,List.map_cons,List.sum_cons]
      omega
    · rw [if_neg e1]
      by_cases e2:t < x.2
      · rw [if_pos e2];simp only [amI,List.map_cons,List.sum_cons];omega
      · rw [if_neg e2];simp only [amI,List.map_cons,List.sum_cons] at ih ⊢;omega
structure Gave (t:Tx5) (a b:Ac):Prop where
  bf:0<=a.2.1/\a.2.1<=1000000
  bn:0<=a.2.2.1/\a.2.2.1<=10000
  bs:0<=a.2.2.2.1/\a.2.2.2.1<=1000000
  bm:1<=t.2.2.2.1/\t.2.2.2.1<=1000000
  nonce:b.2.2.1=a.2.2.1+1
  bond:t.1=2->b.2.2.2.1=a.2.2.2.1+t.2.2.2.1/\b.2.1=a.2.1 - t.2.2.2.1
  unbond:t.1=3->b.2.2.2.1=a.2.2.2.1 - t.2.2.2.1/\b.2.1=a.2.1
  pay:t.1 ≠ 2->t.1 ≠ 3->(t.2.2.1 ≠ t.2.1->b.2.1=a.2.1 - t.2.2.2.1)/\b.2.2.2.1=a.2.2.2.1
theorem doA_facts {e:Int} {l:List Ac} {t:Tx5} {k:Nat} (hl:lgB e l=true) (ht:txB t=true) (hk:k < l.length) (hn:l[k].1=t.2.1) (h3:¬ hasA t l[k] < t.2.2.2.1) :
    wealthA (doA e t l k)=wealthA l/\∃ b,getA t.2.1 (doA e t l k)=some b/\Gave t l[k] b:=by
  have hac:acsB l=true:=by unfold lgB at hl;rw [Bool.and_eq_true] at hl;exact hl.2
  obtain ⟨-,hm,-,hkind⟩:=tx_parts ht
  have hall:=acs_all hac
  have hasc:=asc_of_ok l hac
  have hkk:=hall l[k] (List.getElem_mem _)
  obtain ⟨p1,p2,p3,p4,p5,p6⟩:=ac_parts hkk
  have hasc':=ascA_set hasc k (gvA e t l[k]) hk (gvA_name _ _ _)
  have hgk:getA t.2.1 (l.set k (gvA e t l[k]))=some (gvA e t l[k]):=by
    have:=getA_at hasc' k (by simpa using hk)
    simpa [gvA_name,hn] using this
  have w1:wrap64 (l[k].2.2.1+1)=l[k].2.2.1+1:=by unfold wrap64;omega
  rcases hkind with h1 | h1 | h1
  · have hs:t.2.2.2.1<=l[k].2.1:=by unfold hasA at h3;rw [if_neg (by omega)] at h3;omega
    have w2:wrap64 (l[k].2.1 - t.2.2.2.1)=l[k].2.1 - t.2.2.2.1:=by unfold wrap64;omega
    have hg:gvA e t l[k]=(l[k].1,l[k].2.1 - t.2.2.2.1,l[k].2.2.1+1,l[k].2.2.2.1,l[k].2.2.2.2):=by
      unfold gvA;rw [if_pos h1,w1,w2]
    have hd:doA e t l k=insA (aftA (l.set k (gvA e t l[k])) t.2.2.1 t.2.2.2.1) (l.set k (gvA e t l[k])):=by unfold doA;rw [if_pos h1,getD_at l k hk]
    rw [hd]
    constructor
    · rw [wealth_given _ _ _ hasc',wealth_is,wealth_is,wsI_set l k _ hk,hg]
      unfold ofI
      show wrap64 (wrap64 (wsI l - (l[k].2.1+l[k].2.2.2.1+amI l[k].2.2.2.2)+(l[k].2.1 - t.2.2.2.1+l[k].2.2.2.1+amI l[k].2.2.2.2))+t.2.2.2.1)=wrap64 (wsI l)
      unfold wrap64
      omega
    · by_cases hs2:t.2.2.1=t.2.1
      · refine ⟨aftA (l.set k (gvA e t l[k])) t.2.2.1 t.2.2.2.1,?_,⟨p2,p3,p4,hm,?_,fun h=>by omega,fun h=>by omega,fun _ _=>⟨fun h=>absurd hs2 h,?_⟩⟩⟩
        · have:=getA_ins (aftA (l.set k (gvA e t l[k])) t.2.2.1 t.2.2.2.1) (l.set k (gvA e t l[k]))
          rw [aftA_name] at this
          exact (congrArg (fun s=>getA s _) hs2.symm).trans this
        · unfold aftA;rw [hs2,hgk,hg]
        · unfold aftA;rw [hs2,hgk,hg]
      · refine ⟨gvA e t l[k],?_,⟨p2,p3,p4,hm,by rw [hg],fun h=>by omega,fun h=>by omega,fun _ _=>⟨fun _=>by rw [hg],by rw [hg]⟩⟩⟩
        rw [getA_ins_other _ _ (by rw [aftA_name];exact fun h=>hs2 h.symm),hgk]
  · have hs:t.2.2.2.1<=l[k].2.1:=by unfold hasA at h3;rw [if_neg (by omega)] at h3;omega
    have w2:wrap64 (l[k].2.1 - t.2.2.2.1)=l[k].2.1 - t.2.2.2.1:=by unfold wrap64;omega
    have w3:wrap64 (l[k].2.2.2.1+t.2.2.2.1)=l[k].2.2.2.1+t.2.2.2.1:=by unfold wrap64;omega
    have hg:gvA e t l[k]=(l[k].1,l[k].2.1 - t.2.2.2.1,l[k].2.2.1+1,l[k].2.2.2.1+t.2.2.2.1,l[k].2.2.2.2):=by
      unfold gvA;rw [if_neg (by omega),if_pos h1,w1,w2,w3]
    have hd:doA e t l k=l.set k (gvA e t l[k]):=by unfold doA;rw [if_neg (by omega),getD_at l k hk]
    rw [hd]
    refine ⟨?_,gvA e t l[k],hgk,⟨p2,p3,p4,hm,by rw [hg],fun _=>by rw [hg];exact ⟨rfl,rfl⟩,fun h=>by omega,fun h=>absurd h1 h⟩⟩
    rw [wealth_is,wealth_is,wsI_set l k _ hk,hg]
    unfold ofI
    show wrap64 (wsI l - (l[k].2.1+l[k].2.2.2.1+amI l[k].2.2.2.2)+(l[k].2.1 - t.2.2.2.1+(l[k].2.2.2.1+t.2.2.2.1)+amI l[k].2.2.2.2))=wrap64 (wsI l)
    congr 1
    omega
  · have hs:t.2.2.2.1<=l[k].2.2.2.1:=by unfold hasA at h3;rw [if_pos h1] at h3;omega
    have w3:wrap64 (l[k].2.2.2.1 - t.2.2.2.1)=l[k].2.2.2.1 - t.2.2.2.1:=by unfold wrap64;omega
    have hg:gvA e t l[k]=(l[k].1,l[k].2.1,l[k].2.2.1+1,l[k].2.2.2.1 - t.2.2.2.1,lvP t.2.2.2.1 (wrap64 (e+2)) l[k].2.2.2.2):=by
      unfold gvA;rw [if_neg (by omega),if_neg (by omega),w1,w3]
    have hd:doA e t l k=l.set k (gvA e t l[k]):=by unfold doA;rw [if_neg (by omega),getD_at l k hk]
    rw [hd]
    refine ⟨?_,gvA e t l[k],hgk,⟨p2,p3,p4,hm,by rw [hg],fun h=>by omega,fun _=>by rw [hg];exact ⟨rfl,rfl⟩,fun _ h=>absurd h1 h⟩⟩
    rw [wealth_is,wealth_is,wsI_set l k _ hk,hg]
    unfold ofI
    show wrap64 (wsI l - (l[k].2.1+l[k].2.2.2.1+amI l[k].2.2.2.2)+(l[k].2.1+(l[k].2.2.2.1 - t.2.2.2.1)+amI (lvP t.2.2.2.1 (wrap64 (e+2)) l[k].2.2.2.2)))=wrap64 (wsI l)
    rw [amI_lvP _ _ _ (fun p hp=>by have:=lvs_mem p6 p hp;omega) (by omega)]
    congr 1
    omega
theorem apA_told (e:Int) (l:List Ac) (t:Tx5):((apA e l t).2 ≠ 0/\(apA e l t).1=l)\/((apA e l t).2=0/\lgB e (apA e l t).1=true/\lgB e l=true/\wealthA (apA e l t).1=wealthA l/\∃ (k:Nat) (hk:k < l.length) (j:Nat) (hj:j < (apA e l t).1.length),atA l t.2.1=(k:Int)/\atA (apA e l t).1 t.2.1=(j:Int)/\Gave t l[k] (apA e l t).1[j]):=by
  cases h0:(lgB e l && txB t)
  · rw [apA_form h0];exact .inl ⟨by simp,rfl⟩
  · have h0':=h0
    rw [Bool.and_eq_true] at h0
    rcases at_cases l t.2.1 with h1 | ⟨k,hk,h1,hn,-⟩
    · rw [apA_none h0' (by omega)];exact .inl ⟨by simp,rfl⟩
    · have hgd:=getD_at l k hk
      by_cases h2:(l.getD k ac0).2.2.1=t.2.2.2.2
      · by_cases h3:hasA t (l.getD k ac0) < t.2.2.2.1
        · rw [apA_short h0' h1 h2 h3];exact .inl ⟨by simp,rfl⟩
        · cases h4:lgB e (doA e t l k)
          · rw [apA_full h0' h1 h2 h3 h4];exact .inl ⟨by simp,rfl⟩
          · rw [apA_good h0' h1 h2 h3 h4]
            rw [hgd] at h3
            obtain ⟨hw,b,hb,hG⟩:=doA_facts h0.1 h0.2 hk hn h3
            obtain ⟨j,hj,e1,e2,-⟩:=at_get hb
            exact .inr ⟨rfl,h4,h0.1,hw,k,hk,j,hj,h1,e1,by rw [e2];exact hG⟩
      · rw [apA_nonce h0' h1 h2];exact .inl ⟨by simp,rfl⟩
theorem apA_wealth (e:Int) (l:List Ac) (t:Tx5):wealthA (apA e l t).1=wealthA l:=by
  rcases apA_told e l t with ⟨-,h⟩ | ⟨-,-,-,h,-⟩
  · rw [h]
  · exact h
theorem at_id {l:List Bk} (ht:treeP l) {i:Nat} (hi:i < l.length):atI l l[i].id=(i:Int):=atI_asc (tree_asc ht) hi
theorem ch_last {l:List Bk} (ht:treeP l) {i:Nat} (hi:i < l.length):chA l l[i].id=chA l l[i].qb ++ [i]:=chA_step ht hi (at_id ht hi)
theorem al_wealth (e:Int):∀ (ts:List Tx5) (s:List Ac × Nat),wealthA (ts.foldl (alS e) s).1=wealthA s.1
  | [],s=>rfl
  | t :: ts,s=>by
    rw [List.foldl_cons,al_wealth e ts]
    exact apA_wealth e s.1 t
theorem alA_wealth (e:Int) (l:List Ac) (ts:List Tx5):wealthA (alA e l ts).1=wealthA l:=al_wealth e ts (l,0)
theorem fo_wealth (e:Int) (l:List Bk):∀ (C:List Nat) (z:List Ac),wealthA (foL e z l C)=wealthA z
  | [],z=>rfl
  | i :: C,z=>by
    show wealthA (foL e (alA e z (tsAt l i)).1 l C)=_
    rw [fo_wealth e l C,alA_wealth]
theorem la_wealth (e:Int) (z:List Ac) (l:List Bk) (id:Int):wealthA (laA e z l id).1=wealthA z:=by
  unfold laA
  split
  · rfl
  · split
    · exact fo_wealth e l _ z
    · rfl
theorem la_there (e:Int) (z:List Ac) (l:List Bk) (id:Int):(laA e z l id).2=(decide (id=-1) || (decide (0<=atI l id) && treeB l)):=by
  unfold laA
  by_cases h:id=-1
  · rw [if_pos h,decide_eq_true h];rfl
  · rw [if_neg h,decide_eq_false h,Bool.false_or,Bool.and_comm]
    split
    · rename_i h2;rw [h2]
    · rename_i h2;rw [Bool.not_eq_true] at h2;rw [h2]
theorem la_same {e:Int} {z:List Ac} {l:List Bk} {id:Int} (h:(laA e z l id).2=false\/id=-1):(laA e z l id).1=z:=by
  unfold laA at h ⊢
  split
  · rfl
  · rename_i h1
    split
    · rename_i h2
      rw [if_neg h1,if_pos h2] at h
      rcases h with h | h
      · cases h
      · exact absurd h h1
    · rfl
theorem la_step {e:Int} {z:List Ac} {l:List Bk} {id:Int} (h:(laA e z l id).2=true) (hn:id ≠ -1) :
    ∃ k,∃ hk:k < l.length,atI l id=(k:Int)/\(laA e z l l[k].qb).2=true/\(alA e (laA e z l l[k].qb).1 l[k].ts).1=(laA e z l id).1:=by
  rw [la_there,decide_eq_false hn,Bool.false_or,Bool.and_eq_true,decide_eq_true_eq] at h
  have ht:=treeP_of h.2
  obtain ⟨k,hk,e1,e2⟩:=at_lt h.1
  refine ⟨k,hk,e1,?_⟩
  have e3:(laA e z l id).1=foL e z l (chA l id):=by
    unfold laA
    rw [if_neg hn,if_pos (by rw [h.2,decide_eq_true h.1];rfl)]
  have e4:chA l id=chA l l[k].qb ++ [k]:=by rw [<- e2];exact ch_last ht hk
  have e5:foL e z l (chA l id)=(alA e (foL e z l (chA l l[k].qb)) l[k].ts).1:=by
    rw [e4]
    unfold foL
    rw [List.foldl_append]
    show (alA e _ (tsAt l k)).1=_
    rw [tsAt_eq hk]
  have e6:laA e z l l[k].qb=(foL e z l (chA l l[k].qb),true):=by
    rcases par ht hk with ⟨q1,q2⟩ | ⟨j,hj,q1,q2⟩
    · unfold laA
      rw [if_pos q2,chA_none (by omega)]
      rfl
    · have h0:l[k].qb ≠ -1:=by
        have:=low_id (ht.2 j (by omega)).1
        rw [q2] at this
        omega
      unfold laA
      rw [if_neg h0,if_pos (by rw [h.2,q1,decide_eq_true (show (0:Int)<=(j:Int) by omega)];rfl)]
  rw [e6,e3,e5]
  exact ⟨rfl,rfl⟩
end Go.Proofs.YtohachldbpejpaaGreatDoor
