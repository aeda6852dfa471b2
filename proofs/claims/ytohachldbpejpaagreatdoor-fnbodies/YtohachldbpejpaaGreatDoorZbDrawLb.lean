/- A drawn ledger, and a drawn tree whose blocks do what they must. -/
import Derived.Test.YtohachldbpejpaaGreatDoorZbBdSpec
set_option maxRecDepth 20000
set_option maxHeartbeats 8000000
namespace Go.Proofs.YtohachldbpejpaaGreatDoor
open Go.RowKit
set_option linter.unusedVariables false
theorem gd_lenL {e:Int} {most:Nat}:∀ (ts:List Tx5) (s:List Ac × List Tx5),s.2.length<=most->(ts.foldl (gdS e most) s).2.length<=most
  | [],s,h=>h
  | t :: ts,s,h=>by
    rw [List.foldl_cons]
    refine gd_lenL ts _ ?_
    unfold gdS
    split
    · exact h
    · split
      · simp only [List.length_append,List.length_singleton];omega
      · exact h
theorem gd_lenM {e:Int} {most:Nat}:∀ (ts:List Tx5) (s:List Ac × List Tx5),(ts.foldl (gdS e most) s).2.length<=s.2.length+ts.length
  | [],s=>by simp
  | t :: ts,s=>by
    rw [List.foldl_cons]
    have h:=gd_lenM (e:=e) (most:=most) ts (gdS e most s t)
    have h2:(gdS e most s t).2.length<=s.2.length+1:=by
      unfold gdS
      split
      · omega
      · split
        · simp
        · omega
    rw [List.length_cons]
    omega
theorem gdA_mem {e:Int} {l:List Ac} {ts:List Tx5} {most:Nat} {x:Tx5} (h:x ∈ (gdA e l ts most).2):x ∈ ts:=by
  rcases gd_mem (e:=e) (most:=most) ts (l,[]) x h with h1 | h1
  · cases h1
  · exact h1
theorem setA_mem {e:Int} {l:List Ac} {p:Vl} (h:p ∈ setA e l):∃ a ∈ l,p.1=a.1:=by
  unfold setA at h
  split at h
  · unfold setV at h
    obtain ⟨a,ha,rfl⟩:=List.mem_map.1 h
    exact ⟨a,(List.mem_filter.1 ha).1,rfl⟩
  · cases h
theorem srB_size (e:Int) (l:List Ac):(srB e l).size<=32:=by
  unfold srB
  split
  · split
    · show (0:Nat)<=32;omega
    · rw [rootM_size];omega
  · show (0:Nat)<=32;omega
structure SmBd (b:Bd) (ts:List Tx5):Prop where
  t:b.ts.length<=4
  t2:b.ts.length<=ts.length
  m:∀ x ∈ b.ts,x ∈ ts
  n:b.nx.length<=3999999
  ns:∀ p ∈ b.nx,p.1.size<=maxLen
  r:b.rt.size<=32
theorem bd_small {e:Int} {z:List Ac} {l:List Bk} {id:Int} {ts:List Tx5} (hz:z.length<=3999999) (hall:∀ a ∈ z,a.1.size<=maxLen/\a.2.2.2.2.length<=3999999):SmBd (bdA e z l id ts 4).1 ts:=by
  have h0:SmBd ⟨[],false,[],{ data:=#[] }⟩ ts:=⟨by simp,by simp,by simp,by simp,by simp,by show (0:Nat)<=32;omega⟩
  unfold bdA
  split
  · show SmBd (bdC e z l (chT l id) ts 4) ts
    have q1:=gd_lenL (e:=e) (most:=4) ts (foL e z l (chT l id),[]) (by simp)
    have q2:=gd_lenM (e:=e) (most:=4) ts (foL e z l (chT l id),[])
    have f1:=foL_few (e:=e) l (chT l id) z hz hall
    have f2:=gdA_few (e:=e) ts 4 f1.1 f1.2
    have f3:=neA_few (e:=e) f2.1 f2.2
    simp only [List.length_nil,Nat.zero_add] at q2
    unfold bdC
    split
    · exact h0
    · split
      · refine ⟨q1,q2,fun x hx=>gdA_mem hx,?_,?_,srB_size _ _⟩
        · exact Nat.le_trans (setA_len _ _) f3.1
        · intro p hp
          obtain ⟨a,ha,he⟩:=setA_mem hp
          rw [he]
          exact (f3.2 a ha).1
      · exact ⟨q1,q2,fun x hx=>gdA_mem hx,by simp,by simp,by show (0:Nat)<=32;omega⟩
  · exact h0
theorem FwA.fo {e:Int} {z:List Ac} (h:FwA z) (l:List Bk) (C:List Nat):FwA (foL e z l C):=by
  rcases foL_is e l C z with h1 | h1
  · rw [h1];exact h
  · have h2:=acs_len' h1
    have h3:=acs_four h1
    exact ⟨by omega,fun a ha=>⟨acs_nine h1 a ha,by have:=h3 a ha;omega⟩⟩
theorem OwnA.styg {base g:Nat} {w:World} {v:Value} {l:List Ac} (h:OwnA base w v l) (hg:g < base):Sty g w v l :=
  ⟨h.rd,fun V hV=>(h.ox.agr (fun k h1 h2=>hV.block k h2 (fun e=>by simp only [Option.some.injEq] at e;omega))).rd⟩
theorem tree_rd {l:List Bk} (h:treeB l=true) {i:Nat} (hi:i < l.length):1<=l[i].rd/\l[i].rd<=10000:=by
  have h1:=((treeP_of h).2 i hi).1
  unfold blB inB at h1
  simp only [Bool.and_eq_true,decide_eq_true_eq] at h1
  exact h1.2.2.1
def nm2:List ByteArray:=[{ data:=#[97] },{ data:=#[98] }]
theorem dt_new2 (i e r r2 p:Int):DtK ⟨i,e,r,{ data:=#[97] },r2,p,[],0,[],[],[],false,[],⟨#[]⟩⟩:=by
  have m:1000<=maxLen:=by unfold maxLen;omega
  exact ⟨⟨by simp,by simp,by simp,by simp,by simp,by simp,by simp,by simp,by simp,by show (1:Nat)<=maxLen;omega,by show (0:Nat)<=maxLen;omega⟩,rfl⟩
theorem dt_who {b:Bk} (h:DtK b):DtK { b with qw:=nm2 }:=by
  have m:1000<=maxLen:=by unfold maxLen;omega
  refine ⟨⟨by simp [nm2],h.few.w,h.few.h,h.few.t,h.few.n,fun s hs=>?_,h.few.ws,h.few.ts,h.few.ns,h.few.ms,h.few.rs⟩,h.tr⟩
  have:s.size=1:=by
    simp only [nm2,List.mem_cons,List.not_mem_nil,or_false] at hs
    rcases hs with rfl | rfl <;> rfl
  omega
theorem dt_bd {b:Bk} (h:DtK b) {c:Bd} {ts:List Tx5} (hc:SmBd c ts) (ht:∀ x ∈ ts,x.2.1.size<=9/\x.2.2.1.size<=9):DtK { b with ts:=c.ts,en:=c.en,nx:=c.nx,rt:=c.rt }:=by
  have m:1000<=maxLen:=by unfold maxLen;omega
  refine ⟨⟨h.few.q,h.few.w,h.few.h,?_,?_,h.few.qs,h.few.ws,?_,hc.ns,h.few.ms,?_⟩,h.tr⟩
  · have:=hc.t;show c.ts.length<=4000000;omega
  · have:=hc.n;show c.nx.length<=4000000;omega
  · intro x hx
    have:=ht x (hc.m x hx)
    omega
  · have:=hc.r;show c.rt.size<=maxLen;omega
theorem own_bvN2 (base:Nat) (w:World) (i e r r2 p:Int) (s:ByteArray):OwnK base w ⟨i,e,r,s,r2,p,[],0,[],[],[],false,[],⟨#[]⟩⟩ bvN:=⟨World.ownsRow_nil _ _ _ _,World.ownsRow_nil _ _ _ _,World.ownsRow_nil _ _ _ _,World.ownsRow_nil _ _ _ _,World.ownsRow_nil _ _ _ _⟩
theorem Rn.putBd {w0 w W:World} {g B:Nat} {cv:Value} {code:List UInt8} {b:Bk} {v:Bv} (h:Rn w0 w W g B cv code b v) (c:Bd) {vt vn:Value} (ot:OwnT (B+1) W vt c.ts) (on:OwnV (B+1) W vn c.nx) :
    Rn w0 w ((((W.setCell ⟨B,10,none⟩ vt).setCell ⟨B,11,none⟩ (.bool c.en)).setCell ⟨B,12,none⟩ vn).setCell ⟨B,13,none⟩ (.string c.rt)) g B cv code { b with ts:=c.ts,en:=c.en,nx:=c.nx,rt:=c.rt } { v with t:=vt,n:=vn }:=by
  have d1:Rn w0 w (W.setCell ⟨B,10,none⟩ vt) g B cv code { b with ts:=c.ts } { v with t:=vt }:=h.put 10 vt rfl ⟨h.own.q,h.own.p,h.own.h,ot,h.own.n⟩
  have d2:Rn w0 w ((W.setCell ⟨B,10,none⟩ vt).setCell ⟨B,11,none⟩ (.bool c.en)) g B cv code { b with ts:=c.ts,en:=c.en } { v with t:=vt }:=d1.put 11 (.bool c.en) rfl ⟨d1.own.q,d1.own.p,d1.own.h,d1.own.t,d1.own.n⟩
  have d3:Rn w0 w (((W.setCell ⟨B,10,none⟩ vt).setCell ⟨B,11,none⟩ (.bool c.en)).setCell ⟨B,12,none⟩ vn) g B cv code { b with ts:=c.ts,en:=c.en,nx:=c.nx } { v with t:=vt,n:=vn }:=d2.put 12 vn rfl ⟨d2.own.q,d2.own.p,d2.own.h,d2.own.t,(on.olderC (Nat.lt_succ_self B) 10 _).olderC (Nat.lt_succ_self B) 11 _⟩
  exact d3.put 13 (.string c.rt) rfl ⟨d3.own.q,d3.own.p,d3.own.h,d3.own.t,d3.own.n⟩
structure Lb (w0 w W:World) (g BL:Nat) (cv:Value) (code:List UInt8) (e:Int) (u:Value) (Z:List (Ac × Value)) (v:Value) (L:List Bk):Prop where
  r:Blk W w.heap.size 26 [.int .i64 0,.slice none 0 0]
  k:Blk W BL 26 [.int .i64 e,u]
  d:DrA (w.heap.size+1) W u Z
  o:OwnKs (w.heap.size+1) W v L
  cur:Cur w0 W g cv code
  grw:w.grownBy W (some g)
  gl:g < w.heap.size
  lo:w.heap.size < BL
theorem Lb.call {w0 w W W':World} {g BL:Nat} {cv:Value} {code:List UInt8} {e:Int} {u:Value} {Z:List (Ac × Value)} {v:Value} {L:List Bk} (h:Lb w0 w W g BL cv code e u Z v L) (hc:Cur w0 W' g cv code) (hg:W.grownBy W' (some g)):Lb w0 w W' g BL cv code e u Z v L:=by
  have h1:=h.gl
  have h2:=h.lo
  exact ⟨blk_notgR h.r hg (by omega),blk_notgR h.k hg (by omega),h.d.notg hg (by omega),h.o.notg hg (by omega),hc,grw_trans9 h.grw hg,h1,h2⟩
theorem Lb.bel {w0 w W W':World} {g BL:Nat} {cv:Value} {code:List UInt8} {e:Int} {u:Value} {Z:List (Ac × Value)} {v:Value} {L:List Bk} (h:Lb w0 w W g BL cv code e u Z v L) (hb:Below W.heap.size W W'):Lb w0 w W' g BL cv code e u Z v L :=
  h.call (h.cur.below hb h.cur.lt) (grw_of_below (some g) hb (Nat.le_refl _))
theorem Lb.tree {w0 w W:World} {g BL:Nat} {cv:Value} {code:List UInt8} {e:Int} {u:Value} {Z:List (Ac × Value)} {v v2:Value} {L L2:List Bk} (h:Lb w0 w W g BL cv code e u Z v L) (ho:OwnKs (w.heap.size+1) W v2 L2):Lb w0 w W g BL cv code e u Z v2 L2 :=
  ⟨h.r,h.k,h.d,ho,h.cur,h.grw,h.gl,h.lo⟩
theorem smallZ_fw {Z:List (Ac × Value)} (h:SmallZ Z):FwA (Z.map (·.1)) :=
  ⟨by have:=h.1;simp;omega,fun a ha=>by obtain ⟨q,hq,rfl⟩:=List.mem_map.1 ha;have:=h.2 q hq;omega⟩
theorem l11Draw_any (w0 w:World) (g:Nat) (cv:Value) (code:List UInt8) (most:Nat) (hc:Cur w0 w g cv code) (hl:code.length<=1048576) (hm:most<=100) :
    Calls Tryz.prog 57 #[.pointer (some ⟨g,0,none⟩),.int .i64 (most:Int)] w fun en w'=>∃ (e:Int) (u:Value) (Z:List (Ac × Value)) (v:Value) (l:List Bk),en=.returned (.tuple #[lgV e u,v])/\DrA w.heap.size w' u Z/\SmallZ Z/\OwnKs w.heap.size w' v l/\treeB l=true/\l.length<=100/\(∀ x ∈ l,DtK x)/\Cur w0 w' g cv code/\w.grownBy w' (some g):=by
  have hgl:=hc.lt
  obtain ⟨w1,hw1⟩:∃ w1,w.alloc (.cells #[.int .i64 0,.slice none 0 0] 26)=w1:=⟨_,rfl⟩
  have hb1:Below w.heap.size w w1:=by rw [<- hw1];exact (Below.refl _ w).alloc (Nat.le_refl _) _
  have k1:Blk w1 w.heap.size 26 [.int .i64 0,.slice none 0 0]:=by rw [<- hw1];exact Blk.new w _ _
  have hs1:w1.heap.size=w.heap.size+1:=by rw [<- hw1];simp
  have C1:=hide (hc.below hb1 hgl)
  have G1:=hide (grw_of_below (some g) hb1 (Nat.le_refl _))
  have K1:=hide k1
  have HS1:=hide hs1
  clear hc hb1 k1 hs1
  go_enter Tryz.func57,Tryz.ntmps57
  go_wp2_with fail
  refine (l6Draw_any w0 w1 g cv code C1.out hl).mono ?_
  rintro en w2 ⟨e,u,Z,rfl,hd2,hs2,hc2,hg2⟩
  unfold lgV
  obtain ⟨⟨GA,zc,rfl⟩,-⟩:=id hd2
  obtain ⟨w3,hw3⟩:∃ x,w2.alloc (.cells #[.int .i64 e,.slice (some ⟨GA,0,none⟩) Z.length zc] 26)=x:=⟨_,rfl⟩
  obtain ⟨w4,hw4⟩:∃ x,w3.alloc (.cells #[] 50)=x:=⟨_,rfl⟩
  have b3:Below w2.heap.size w2 w3:=by rw [<- hw3];exact (Below.refl _ w2).alloc (Nat.le_refl _) _
  have b4:Below w3.heap.size w3 w4:=by rw [<- hw4];exact (Below.refl _ w3).alloc (Nat.le_refl _) _
  have k3:Blk w3 w2.heap.size 26 [.int .i64 e,.slice (some ⟨GA,0,none⟩) Z.length zc]:=by rw [<- hw3];exact Blk.new w2 _ _
  have s3:w3.heap.size=w2.heap.size+1:=by rw [<- hw3];simp
  have b24:Below w2.heap.size w2 w4:=b3.trans (b4.mono (by omega))
  have z2:=hg2.size
  have s1:=HS1.out
  have o4:OwnKs (w.heap.size+1) w4 (.slice (some ⟨w3.heap.size,0,none⟩) 0 0) []:=by rw [<- hw4];exact (own_nilKs w3 _ (Nat.le_refl _)).mono9L (by omega)
  have HL4:Hid (Lb w0 w w4 g w2.heap.size cv code e (.slice (some ⟨GA,0,none⟩) Z.length zc) Z (.slice (some ⟨w3.heap.size,0,none⟩) 0 0) []):=hide
    ⟨(blk_notgR K1.out hg2 (by omega)).below b24 (by omega),k3.below b4 (by omega),by rw [<- s1];exact hd2.below b24 (Nat.le_refl _),o4,hc2.below b24 hc2.lt,grw_below (grw_trans G1.out hg2) b24 (by omega),hgl,by omega⟩
  have HSm:=hide hs2
  have HS3:=hide s3
  clear hd2 hs2 hc2 hg2 b3 b4 k3 b24 z2 s1 o4 K1 C1 G1 hw1 HS1
  go_wp2_with fail
  (try rw [hw4])
  refine (l1Below_any w0 w4 g cv code (most:Int) HL4.out.cur hl (by omega) (by omega)).mono ?_
  rintro en w5 ⟨n,rfl,hn1,hn2,hc5,hg5⟩
  have hn:n<=100:=by
    by_cases h:0 < (most:Int)
    · have:=hn1 h;omega
    · have:=hn2 (by omega);omega
  have HL5:=hide (HL4.out.call hc5 hg5)
  rw [HS3.out] at HL5
  clear hn1 hn2 hc5 hg5 HL4 hw3 hw4 HS3 s3
  generalize hBL:w2.heap.size=BL at *
  clear hBL
  go_wp2
  go_loopw [8,7] (fun iv ov wr=>∃ (i:Nat) (L:List Bk),iv=.int .i64 (i:Int)/\i+L.length<=n/\Lb w0 w wr g BL cv code e (.slice (some ⟨GA,0,none⟩) Z.length zc) Z ov L/\treeB L=true/\(∀ x ∈ L,DtK x)) (fun iv _ _=>(intOf iv).toNat)
  case atStart=>exact ⟨n,[],rfl,by simp,HL5.out,tree_nil,by simp⟩
  case round =>
    clear HL5
    obtain ⟨i,L,rfl,hiL,hb,htb,hdt⟩:=hrel
    obtain ⟨oa,oc,rfl⟩:=hb.o.rd.shape
    have Htb:=hide htb
    have Hdt:=hide hdt
    have HB:=hide hb
    clear htb hdt hb
    rcases i with _ | j
    · have hz:((0:Nat):Int)=0:=rfl
      rw [hz]
      have hL9:L.length<=100:=by omega
      have p0:=HB.out.r.cell 0
      have p1:=HB.out.r.cell 1
      have f0:=HB.out.r.frozen 0
      have f1:=HB.out.r.frozen 1
      have q0:=HB.out.k.cell 0
      have q1:=HB.out.k.cell 1
      simp only [List.getElem?_cons_zero,List.getElem?_cons_succ] at p0 p1 q0 q1
      have hBne:BL ≠ w.heap.size:=by have:=HB.out.lo;omega
      clear hz
      go_wp2
      refine bodyPost_ret (v:=.tuple #[.agg #[.int .i64 e,.slice (some ⟨GA,0,none⟩) Z.length zc],.slice oa L.length oc]) (by simp [results,Tryz.f57,go_sem,p0,p1]) rfl ?_
      have gs0:=grown_set wr w.heap.size 0 (.int .i64 e)
      have gs1:=grown_set (wr.setCell ⟨w.heap.size,0,none⟩ (.int .i64 e)) w.heap.size 1 (.slice (some ⟨GA,0,none⟩) Z.length zc)
      have hbE:Below w.heap.size wr ((wr.setCell ⟨w.heap.size,0,none⟩ (.int .i64 e)).setCell ⟨w.heap.size,1,none⟩ (.slice (some ⟨GA,0,none⟩) Z.length zc)):=((Below.refl _ wr).setCell (p:=⟨w.heap.size,0,none⟩) (Nat.le_refl _) _).setCell (p:=⟨w.heap.size,1,none⟩) (Nat.le_refl _) _
      refine ⟨e,_,Z,_,L,rfl,?_,HSm.out,?_,Htb.out,hL9,Hdt.out,HB.out.cur.below hbE hgl,grw_below HB.out.grw hbE (Nat.le_refl _)⟩
      · exact ((HB.out.d.notg gs0 (by omega)).notg gs1 (by omega)).mono (by omega)
      · exact ((HB.out.o.notg gs0 (by omega)).notg gs1 (by omega)).mono9L (by omega)
    · have hjp:(0:Int) < ((j+1:Nat):Int):=by omega
      have hL9:L.length<=100:=by omega
      go_upto_region 8 with fail
      go_cut [32] from 21 to 90 (fun bv wc=>∃ bb:Bool,bv=.bool bb/\(bb=true->0 < L.length)/\Lb w0 w wc g BL cv code e (.slice (some ⟨GA,0,none⟩) Z.length zc) Z (.slice oa L.length oc) L)
      case first =>
        by_cases hL:L=[]
        · subst hL
          go_wp2
          go_meet
          exact ⟨false,rfl,by simp,HB.out⟩
        · have hL1:decide ((0:Int) < (L.length:Int))=true:=decide_eq_true (by have:=List.length_pos_iff.2 hL;omega)
          have hLp:0 < L.length:=List.length_pos_iff.2 hL
          clear hL
          go_wp2_with fail
          refine (l1Once_any w0 wr g cv code 5 HB.out.cur hl (by omega) (by omega)).mono ?_
          rintro en w7 ⟨o1,rfl,hc7,hg7⟩
          have HB7:=hide (HB.out.call hc7 hg7)
          clear hc7 hg7
          go_wp2
          go_meet
          exact ⟨_,rfl,fun _=>hLp,HB7.out⟩
      case rest =>
      obtain ⟨bb,rfl,hbb,hB7⟩:=hcut
      obtain ⟨w7,hw7⟩:∃ x,x=wc:=⟨_,rfl⟩
      subst hw7
      have HB7:=hide hB7
      clear hB7 HB
      go_upto_if 32 with fail
      go_cut [9,10] from 21 to 90 (fun pv rv wc=>∃ (p r:Int),pv=.int .i64 p/\rv=.int .i64 r/\0<=r/\r<=10000/\Lb w0 w wc g BL cv code e (.slice (some ⟨GA,0,none⟩) Z.length zc) Z (.slice oa L.length oc) L)
      case first =>
        cases bb
        · go_wp2
          go_meet
          exact ⟨-1,0,rfl,rfl,by omega,by omega,HB7.out⟩
        · have hLp:0 < L.length:=hbb rfl
          have hLi:(0:Int) < (L.length:Int):=by omega
          have hx9:∀ x3:Nat,x3 < L.length->∃ q:Nat,q < L.length/\(L.length:Int) - 1 - (x3:Int) / 2=(q:Int):=fun x3 h=>⟨L.length - 1 - x3 / 2,by omega,by omega⟩
          clear hbb
          go_wp2_with fail
          refine (l1Below_any w0 w7 g cv code (L.length:Int) HB7.out.cur hl (by omega) (by omega)).mono ?_
          rintro en w8 ⟨x3,rfl,hx3,-,hc8,hg8⟩
          obtain ⟨q,hql,hqe⟩:=hx9 x3 (by have:=hx3 hLi;omega)
          have HB8:=hide (HB7.out.call hc8 hg8)
          clear hc8 hg8 hx3 hx9 HB7
          have hq0:(0:Int)<=(q:Int):=by omega
          have hqi:(q:Int) < (L.length:Int):=by omega
          obtain ⟨b9,off9,hoa,h39,hcell⟩:=HB8.out.o.rd.parts9 hLp
          subst hoa
          obtain ⟨lv,hat,hrl⟩:=hcell q hql
          obtain ⟨aq,cq,aw,cw,ah,ch,at_,ct,an,cn,rfl⟩:=hrl.shapes9
          obtain ⟨c0,c1,c2,c3,c4,c5,c6,c7,c8,c9,c10,c11,c12,c13⟩:=hat.cells
          simp only at c0 c1 c2 c3 c4 c5 c6 c7 c8 c9 c10 c11 c12 c13
          have hrd:=tree_rd Htb.out hql
          generalize L[q]=pq at c0 c1 c2 c3 c4 c5 c6 c7 c8 c9 c10 c11 c12 c13 hrd
          clear hat hrl hcell
          go_upto_region 10 with fail
          generalize hw10:World.alloc w8 _=w10
          have b10:Below w8.heap.size w8 w10:=by rw [<- hw10];exact (Below.refl _ w8).alloc (Nat.le_refl _) _
          have k10:Blk w10 w8.heap.size 50 (bkC pq ⟨.slice aq pq.qw.length cq,.slice aw pq.tw.length cw,.slice ah pq.th.length ch,.slice at_ pq.ts.length ct,.slice an pq.nx.length cn⟩):=by rw [<- hw10];exact Blk.new w8 _ _
          have p0:=k10.cell 0
          have p2:=k10.cell 2
          simp only [bkC,List.getElem?_cons_zero,List.getElem?_cons_succ] at p0 p2
          have HB10:=hide (HB8.out.bel b10)
          clear hw10 b10 k10 HB8 c0 c1 c2 c3 c4 c5 c6 c7 c8 c9 c10 c11 c12 c13
          go_wp2
          go_meet
          exact ⟨pq.id,pq.rd,rfl,rfl,by omega,by omega,HB10.out⟩
      case rest =>
      obtain ⟨p,r,rfl,rfl,hr0,hr1,hBc⟩:=hcut
      obtain ⟨wx,hwx⟩:∃ x,x=wc:=⟨_,rfl⟩
      subst hwx
      have HBc:=hide hBc
      have k0:=hBc.k.cell 0
      have k1:=hBc.k.cell 1
      simp only [List.getElem?_cons_zero,List.getElem?_cons_succ] at k0 k1
      clear hBc HB7 hbb
      go_upto_region 13 with fail
      generalize hw6:World.alloc wx _=w6
      have R6:Rn w0 wx w6 g wx.heap.size cv code ⟨(L.length:Int),e,r+1,{ data:=#[97] },r,p,[],0,[],[],[],false,[],⟨#[]⟩⟩ bvN:=by
        have b6:Below wx.heap.size wx w6:=by rw [<- hw6];exact (Below.refl _ wx).alloc (Nat.le_refl _) _
        exact ⟨by rw [<- hw6];exact Blk.new wx _ _,Nat.le_refl _,own_bvN2 _ _ _ _ _ _ _ _,HBc.out.cur.below b6 HBc.out.cur.lt,grw_of_below (some g) b6 (Nat.le_refl _),HBc.out.cur.lt⟩
      have HD6:=hide (dt_new2 (L.length:Int) e (r+1) r p)
      have HR6:=hide R6
      generalize hb6:(⟨(L.length:Int),e,r+1,{ data:=#[97] },r,p,[],0,[],[],[],false,[],⟨#[]⟩⟩:Bk)=b6 at HR6 HD6
      generalize hv6:bvN=v6 at HR6
      clear hw6 R6 hb6 hv6 k0 k1
      go_upto_if 60 with fail
      go_cut [] from 21 to 90 (fun wc=>∃ (b:Bk) (v:Bv),Rn w0 wx wc g wx.heap.size cv code b v/\DtK b)
      case first =>
        by_cases hp:0<=p
        · obtain ⟨w11,hw11⟩:∃ x,w6.alloc (.cells #[.string { data:=#[97] },.string { data:=#[98] }] 9)=x:=⟨_,rfl⟩
          have b11:Below w6.heap.size w6 w11:=by rw [<- hw11];exact (Below.refl _ w6).alloc (Nat.le_refl _) _
          have R11:=HR6.out.bel b11
          have hBlt:=HR6.out.o.lt
          have oq:OwnS (wx.heap.size+1) w11 (.slice (some ⟨w6.heap.size,0,none⟩) 2 2) nm2:=by rw [<- hw11];exact World.ownsRow_lit w6 #[.string { data:=#[97] },.string { data:=#[98] }] 2 (by omega) (by unfold maxLen;omega) (by simp)
          have z6:=R11.o.cell 6
          have f6:=R11.o.frozen 6
          simp only [bkC,List.getElem?_cons_zero,List.getElem?_cons_succ] at z6
          have HR12:=hide (R11.put (b':={ b6 with qw:=nm2 }) (v':={ v6 with q:=.slice (some ⟨w6.heap.size,0,none⟩) 2 2 }) 6 (.slice (some ⟨w6.heap.size,0,none⟩) 2 2) rfl ⟨oq,R11.own.p,R11.own.h,R11.own.t,R11.own.n⟩)
          clear b11 R11 oq HR6
          go_wp2
          (try rw [hw11])
          go_meet
          exact ⟨_,_,HR12.out,dt_who HD6.out⟩
        · go_wp2
          go_meet
          exact ⟨_,_,HR6.out,HD6.out⟩
      case rest =>
      obtain ⟨b,v,hR,hD⟩:=hcut
      obtain ⟨wy,hwy⟩:∃ x,x=wc:=⟨_,rfl⟩
      subst hwy
      have HR:=hide hR
      have HD:=hide hD
      clear hR hD HR6 HD6 hr0 hr1
      go_upto_region 15 with fail
      go_cut [] from 21 to 90 (fun wc=>∃ (b:Bk) (v:Bv),Rn w0 wx wc g wx.heap.size cv code b v/\DtK b)
      case first =>
        have HS:Hid (∀ W,wx.grownBy W (some g)->(W.cell? ⟨BL,0,none⟩=some (.int .i64 e)/\W.cell? ⟨BL,1,none⟩=some (.slice (some ⟨GA,0,none⟩) Z.length zc))):=hide (fun W hW=>by
          have a1:=blk_notgR HBc.out.k hW (by have:=HBc.out.gl;have:=HBc.out.lo;omega)
          exact ⟨a1.cell 0,a1.cell 1⟩)
        have HZ:=hide (few_fit (smallZ_fw HSm.out))
        have HFew:Hid (∀ b ∈ L,FewK b):=hide (fun x hx=>(Hdt.out x hx).few)
        have HLb:Hid (∀ W,wx.grownBy W (some g)->Cur w0 W g cv code->Lb w0 w W g BL cv code e (.slice (some ⟨GA,0,none⟩) Z.length zc) Z (.slice oa L.length oc) L):=hide (fun W hW hC=>HBc.out.call hC hW)
        have HAt:Hid (∀ W,wx.grownBy W (some g)->Cur w0 W g cv code->Calls Tryz.prog 59 #[.agg #[.int .i64 e,.slice (some ⟨GA,0,none⟩) Z.length zc],.slice oa L.length oc,.int .i64 p] W fun en w'=>∃ v',en=.returned (.agg #[.int .i64 e,v'])/\OwnA W.heap.size w' v' (foL e (Z.map (fun q:Ac × Value=>q.1)) L (chA L p))/\Below W.heap.size W w'):=hide (fun W hW hC=>specL11At_any e (.slice (some ⟨GA,0,none⟩) Z.length zc) (.slice oa L.length oc) (Z.map (fun q:Ac × Value=>q.1)) L p W ((HLb.out W hW hC).d.rd) (HLb.out W hW hC).o.rd HZ.out.1 HZ.out.2 (by omega) HFew.out (treeP_of Htb.out))
        have HTx:Hid (∀ W (v1:Value),Cur w0 W g cv code->Sty g W v1 (foL e (Z.map (fun q:Ac × Value=>q.1)) L (chA L p))->Calls Tryz.prog 48 #[.pointer (some ⟨g,0,none⟩),.agg #[.int .i64 e,v1],.int .i64 4] W fun en w'=>DrO w0 W g cv code 4 en w'):=hide (fun W v1 hC hs=>l6Txs_any w0 W g cv code e v1 (foL e (Z.map (fun q:Ac × Value=>q.1)) L (chA L p)) 4 hC hl hs ((smallZ_fw HSm.out).fo L (chA L p)) (by omega))
        have HMk:Hid (∀ W (v2:Value) (ts:List Tx5),wx.grownBy W (some g)->Cur w0 W g cv code->RdT W v2 ts->ts.length<=4->(∀ x ∈ ts,x.2.1.size<=9/\x.2.2.1.size<=9)->Calls Tryz.prog 36 #[.agg #[.int .i64 e,.slice (some ⟨GA,0,none⟩) Z.length zc],.slice oa L.length oc,.int .i64 p,v2] W fun en w'=>∃ (bd:Bd) (ag:Option Addr) (cg:Nat) (an:Option Addr) (cn:Nat),en=.returned (.tuple #[.slice ag bd.ts.length cg,.bool bd.en,.slice an bd.nx.length cn,.string bd.rt])/\OwnT W.heap.size w' (.slice ag bd.ts.length cg) bd.ts/\OwnV W.heap.size w' (.slice an bd.nx.length cn) bd.nx/\Below W.heap.size W w'/\SmBd bd ts):=hide (fun W v2 ts hW hC hr h4 h9=>by
          refine (specMakeBody_any e (.slice (some ⟨GA,0,none⟩) Z.length zc) (.slice oa L.length oc) v2 (Z.map (fun q:Ac × Value=>q.1)) L p ts W ((HLb.out W hW hC).d.rd) (HLb.out W hW hC).o.rd hr HZ.out.1 HZ.out.2 (by omega) HFew.out (fun x hx=>by rw [(Hdt.out x hx).tr];omega) (by omega) (fun x hx=>by have:=h9 x hx;unfold maxLen;omega)).mono ?_
          rintro en w' ⟨vg,vn,rfl,o1,o2,b1⟩
          obtain ⟨ag,cg,rfl⟩:=o1.rd.shape
          obtain ⟨an,cn,rfl⟩:=o2.rd.shape
          exact ⟨_,ag,cg,an,cn,rfl,o1,o2,b1,bd_small HZ.out.1 HZ.out.2⟩)
        have gD:wx.grownBy wy.drew (some g):=grw_drewN HR.out.grw 1
        have cD:Cur w0 wy.drew g cv code:=HR.out.cur.drew
        have hS0:=HS.out _ gD
        have RD:Rn w0 wx wy.drew g wx.heap.size cv code b v:=HR.out.call cD ⟨rfl,rfl,rfl,Nat.le_refl _,fun _ _ _=>rfl⟩
        have lD:g < wy.drew.heap.size:=cD.lt
        clear HR HLb HBc
        go_region_held_law (fun w'=>w'.cell? ⟨BL,0,none⟩=some (.int .i64 e)/\w'.cell? ⟨BL,1,none⟩=some (.slice (some ⟨GA,0,none⟩) Z.length zc)) (first | with_reducible exact hS0 | with_reducible exact hS1 | with_reducible exact hS2 | with_reducible exact hS3 | with_reducible exact hS4 | with_reducible exact hS5 | with_reducible exact hS6 | with_reducible exact hS7) ((first
          | (go_at_call 36;(with_reducible refine (HMk.out w2 _ ts g2 c2 r2 h4 h9).mono ?_);rintro en w3 ⟨bd,ag,cg,an,cn,rfl,og,on,hb3,hbd⟩;have R3:=R2.bel hb3;have g3:=R3.grw;have hS3:=HS.out _ g3;have y10:=R3.o.cell 10;have y11:=R3.o.cell 11;have y12:=R3.o.cell 12;have y13:=R3.o.cell 13;have f10:=R3.o.frozen 10;have f11:=R3.o.frozen 11;have f12:=R3.o.frozen 12;have f13:=R3.o.frozen 13;simp only [bkC,List.getElem?_cons_zero,List.getElem?_cons_succ] at y10 y11 y12 y13;have e10:Below wx.heap.size w3 (w3.setCell ⟨wx.heap.size,10,none⟩ (.slice ag bd.ts.length cg)):=(Below.refl wx.heap.size w3).setCell (p:=⟨wx.heap.size,10,none⟩) (Nat.le_refl _) _;have hS4:=HS.out _ (grw_below g3 e10 (Nat.le_refl _));have e11:Below wx.heap.size w3 ((w3.setCell ⟨wx.heap.size,10,none⟩ (.slice ag bd.ts.length cg)).setCell ⟨wx.heap.size,11,none⟩ (.bool bd.en)):=e10.setCell (p:=⟨wx.heap.size,11,none⟩) (Nat.le_refl _) _;have hS5:=HS.out _ (grw_below g3 e11 (Nat.le_refl _));have e12:Below wx.heap.size w3 (((w3.setCell ⟨wx.heap.size,10,none⟩ (.slice ag bd.ts.length cg)).setCell ⟨wx.heap.size,11,none⟩ (.bool bd.en)).setCell ⟨wx.heap.size,12,none⟩ (.slice an bd.nx.length cn)):=e11.setCell (p:=⟨wx.heap.size,12,none⟩) (Nat.le_refl _) _;have hS6:=HS.out _ (grw_below g3 e12 (Nat.le_refl _));have e13:Below wx.heap.size w3 ((((w3.setCell ⟨wx.heap.size,10,none⟩ (.slice ag bd.ts.length cg)).setCell ⟨wx.heap.size,11,none⟩ (.bool bd.en)).setCell ⟨wx.heap.size,12,none⟩ (.slice an bd.nx.length cn)).setCell ⟨wx.heap.size,13,none⟩ (.string bd.rt)):=e12.setCell (p:=⟨wx.heap.size,13,none⟩) (Nat.le_refl _) _;have hS7:=HS.out _ (grw_below g3 e13 (Nat.le_refl _)))
          | (go_at_call 48;(with_reducible refine (HTx.out w1 _ c1 s1).mono ?_);rintro en w2 ⟨v2,ts,rfl,o2,h4,h9,c2,g12⟩;obtain ⟨a2,cc2,hv2⟩:=o2.rd.shape;subst hv2;have g2:=grw_trans9 g1 g12;have hS2:=HS.out _ g2;have R2:=R1.call c2 g12;have r2:=o2.rd)
          | (go_at_call 59;(with_reducible refine (HAt.out wy.drew gD cD).mono ?_);rintro en w1 ⟨v1,rfl,o1,hb1⟩;obtain ⟨a1,cc1,hv1⟩:=o1.rd.shape;subst hv1;have R1:=RD.bel hb1;have g1:=R1.grw;have c1:=R1.cur;have hS1:=HS.out _ g1;have s1:=o1.styg (g:=g) lD)))
        have hBlt:=R2.o.lt
        have HRz:=hide (R3.putBd bd (OwnT.mono og (Nat.succ_le_of_lt hBlt)) (OwnV.mono on (Nat.succ_le_of_lt hBlt)))
        have HDz:=hide (dt_bd HD.out hbd h9)
        clear hS0 hS1 hS2 hS3 hS4 hS5 hS6 hS7 R3 R2 R1 RD e10 e11 e12 e13 y10 y11 y12 y13 f10 f11 f12 f13
        go_wp2
        go_meet
        exact ⟨_,_,HRz.out,HDz.out⟩
      case rest =>
      obtain ⟨b,v,hR,hD⟩:=hcut
      clear HR HD
      have y0:=hR.o.cell 0
      have y1:=hR.o.cell 1
      have y2:=hR.o.cell 2
      have y3:=hR.o.cell 3
      have y4:=hR.o.cell 4
      have y5:=hR.o.cell 5
      have y6:=hR.o.cell 6
      have y7:=hR.o.cell 7
      have y8:=hR.o.cell 8
      have y9:=hR.o.cell 9
      have y10:=hR.o.cell 10
      have y11:=hR.o.cell 11
      have y12:=hR.o.cell 12
      have y13:=hR.o.cell 13
      simp only [bkC,List.getElem?_cons_zero,List.getElem?_cons_succ] at y0 y1 y2 y3 y4 y5 y6 y7 y8 y9 y10 y11 y12 y13
      have HBy:=hide (HBc.out.call hR.cur hR.grw)
      have HA:=hide (specAddTo_any (.slice oa L.length oc) L b v wc HBy.out.o.rd hR.own.rd (by first | omega | simp) (fun x hx=>(Hdt.out x hx).few) hD.few (fun x hx=>by rw [(Hdt.out x hx).tr];omega) (by rw [hD.tr];omega))
      have HAD:=hide (fun x hx=>ad_dt Hdt.out hD x hx)
      have HAT:=hide (fun h=>ad_tree (l:=L) (b:=b) h)
      have hAL:=ad_len L b
      have hszw:w.heap.size+1<=wc.heap.size:=by have:=HBy.out.lo;have:=HBy.out.k.lt;omega
      simp only [bkV] at HA
      generalize adS L b=AD at HA HAD HAT hAL
      obtain ⟨L2,ok⟩:=AD
      simp only at HA HAD HAT hAL
      clear hR hD HBc
      go_wp2_with fail
      refine HA.out.mono ?_
      rintro en w9 ⟨v9,rfl,o9,hb9⟩
      have HB9:=hide (HBy.out.bel hb9)
      have hL2s:=o9.rd.shape
      cases ok
      · clear o9 hb9 HA HAD HAT y0 y1 y2 y3 y4 y5 y6 y7 y8 y9 y10 y11 y12 y13
        go_wp2
        go_roundw
        case rel=>exact ⟨j,L,by go_num,by first | omega | (simp;omega),HB9.out,Htb.out,Hdt.out⟩
        case measure=>simp [intOf];try omega
      · have HO9:=hide (o9.mono9L hszw)
        have HT9:=hide (HAT.out rfl)
        clear o9 hb9 HA HAT y0 y1 y2 y3 y4 y5 y6 y7 y8 y9 y10 y11 y12 y13
        go_wp2
        go_roundw
        case rel=>exact ⟨j,L2,by go_num,by first | omega | (simp at hAL hiL;omega),HB9.out.tree HO9.out,HT9.out,HAD.out⟩
        case measure=>simp [intOf];try omega
end Go.Proofs.YtohachldbpejpaaGreatDoor
