/- A struct that is put together bit by bit; a struct stored whole. -/
import Derived.Test.YtfdbedenlbikgaaZoAcMem
import Derived.Test.YtfdbedenlbikgaaZoBkEq
import Derived.Test.YtfdbedenlbikgaaZoTxMarkC
set_option maxRecDepth 20000
set_option maxHeartbeats 8000000
namespace Go.Proofs.Ytfdbedenlbikgaa
open Go.RowKit
set_option linter.unusedVariables false
theorem toBlockS_any (v:Value) (l:List Bk) (w:World) (hr:RdKs w v l) (hl:l.length<=4000000) (hall:∀ a ∈ l,FewK a) :
    Calls Try.prog 21 #[v] w fun e w'=>∃ v',e=.returned v'/\OwnKs w.heap.size w' v' l/\Below w.heap.size w w':=by
  obtain ⟨i0,hi,hz0,hz1,hz2⟩:=info_parts Try.infoBk
  rcases hr with ⟨a,cap,rfl,rfl,-⟩ | ⟨b,off,cap,h0,rfl,h1,h2,h3,h4⟩
  · go_enter Try.func21,Try.ntmps21
    go_wp2_with (refine wpList_make_full _ rfl _ _ 38 rfl w.heap.size 105 i0 (.agg #[.int .i64 0,.int .i64 0,.int .i64 0,.string { data:=#[] },.int .i64 0,.int .i64 0,.slice none 0 0,.int .i64 0,.slice none 0 0,.slice none 0 0,.slice none 0 0,.bool false,.slice none 0 0,.string { data:=#[] }]) 14 Try.underlying38 hi hz0 hz1 .i64 .i64 _ _ 0 rfl rfl rfl rfl (by omega) (by unfold maxLen;omega) (Nat.le_refl _) ?_;intro w1 hown hgrow)
    have hb1:Below w.heap.size w w1:=(Below.refl _ _).grown hgrow (Nat.le_refl _) (by intro k hk;cases hk)
    refine wp_loop_rounds 1 ?_
    rw [rounds_succ]
    go_wp2
    go_ret
    have ho':OwnKs w.heap.size w1 (.slice (some ⟨w.heap.size,0,none⟩) 0 0) []:=by
      have e:=made_flat (Value.agg #[.int .i64 0,.int .i64 0,.int .i64 0,.string { data:=#[] },.int .i64 0,.int .i64 0,.slice none 0 0,.int .i64 0,.slice none 0 0,.slice none 0 0,.slice none 0 0,.bool false,.slice none 0 0,.string { data:=#[] }]).cells 14 0 rfl (by omega)
      rw [e] at hown
      exact ⟨_,_,[],rfl,rfl,hown,Kvs.nil _ _ _⟩
    exact ⟨_,rfl,ho',hb1⟩
  · go_enter Try.func21,Try.ntmps21
    go_wp2_with (refine wpList_make_full _ rfl _ _ 38 rfl w.heap.size 105 i0 (.agg #[.int .i64 0,.int .i64 0,.int .i64 0,.string { data:=#[] },.int .i64 0,.int .i64 0,.slice none 0 0,.int .i64 0,.slice none 0 0,.slice none 0 0,.slice none 0 0,.bool false,.slice none 0 0,.string { data:=#[] }]) 14 Try.underlying38 hi hz0 hz1 .i64 .i64 _ _ l.length rfl rfl rfl rfl (by rw [hz2];omega) (by unfold maxLen;omega) (Nat.le_refl _) ?_;intro w1 hown hgrow)
    have hb1:Below w.heap.size w w1:=(Below.refl _ _).grown hgrow (Nat.le_refl _) (by intro k hk;cases hk)
    go_loopw [4] (fun i wr=>∃ (k:Nat) (Z:List (Bk × Bv)),k<=l.length/\i=.int .i64 k/\Z.map (·.1)=l.take k/\wr.ownsRow w.heap.size 105 14 (.slice (some ⟨w.heap.size,0,none⟩) l.length l.length) l.length (prt (Z.map bkP) bkZ l.length).flatten/\Kvs w.heap.size wr w.heap.size Z/\Below w.heap.size w wr)
      (fun i _=>l.length - (intOf i).toNat)
    case atStart =>
      refine ⟨0,[],Nat.zero_le _,rfl,rfl,?_,Kvs.nil _ _ _,hb1⟩
      rw [List.map_nil,prt_zero]
      have e:=made_flat (Value.agg #[.int .i64 0,.int .i64 0,.int .i64 0,.string { data:=#[] },.int .i64 0,.int .i64 0,.slice none 0 0,.int .i64 0,.slice none 0 0,.slice none 0 0,.slice none 0 0,.bool false,.slice none 0 0,.string { data:=#[] }]).cells 14 l.length rfl (by omega)
      rw [e] at hown
      exact hown
    case round =>
      obtain ⟨k,Z,hk,rfl,hZ,ho,hlv,hb⟩:=hrel
      clear hown hgrow hb1
      have hZl:(Z.map bkP).length=k:=by have:=congrArg List.length hZ;simp at this;simp;omega
      by_cases hlt:k < l.length
      · obtain ⟨lv,hat,hrl⟩:=h4 k hlt
        have hat:=hat.below hb h3
        obtain ⟨c0,c1,c2,c3,c4,c5,c6,c7,c8,c9,c10,c11,c12,c13⟩:=hat.cells
        have hli:(k:Int) < (l.length:Int):=by omega
        have psz:=prt_sz 14 (Z.map bkP) bkZ l.length (bkP_sz Z) rfl
        have plen:=prt_len (Z.map bkP) bkZ l.length (by omega)
        have Hg:Hid (∀ j,j < 14->(prt (Z.map bkP) bkZ l.length).flatten[k * 14+j]?=bkZ[j]?):=hide (fun j hj=>by
          rw [flat_get 14 _ k j (by rw [plen];exact hlt) psz hj,prt_at _ _ _ k hZl.symm hlt])
        have HT:=hide (toBlockD_any l[k] lv wr (hrl.below hb (Nat.le_refl _)) (hall l[k] (List.getElem_mem _)))
        have Hput:Hid (∀ lv':Bv,setAll (prt (Z.map bkP) bkZ l.length).flatten (k * 14) (bkC l[k] lv')=(prt ((Z ++ [(l[k],lv')]).map bkP) bkZ l.length).flatten):=hide (fun lv'=>by
          rw [setAll_flat 14 (bkC l[k] lv') _ k (by rw [plen];exact hlt) psz rfl,prt_next _ _ _ _ k hZl.symm hlt,List.map_append]
          rfl)
        have HZ2:Hid (∀ lv':Bv,(Z ++ [(l[k],lv')]).map (·.1)=l.take (k+1)):=hide (fun lv'=>by rw [List.map_append,hZ,List.take_succ_eq_append_getElem hlt];rfl)
        have Hsz:=hide psz
        have Hpl:=hide plen
        have Hlv:=hide hlv
        have hgl:w.heap.size < wr.heap.size:=(World.ownsRow.lt ho w.heap.size rfl).2
        have Hsh:=hide hrl.shapes9
        clear h4 hlv hrl hat psz plen hZl hZ hall Hg
        generalize l[k]=ak at c0 c1 c2 c3 c4 c5 c7 c11 c13 HT Hput HZ2 Hsh
        obtain ⟨aq,cq,aw,cw,ah,ch,at_,ct,an,cn,rfl⟩:=Hsh.out
        clear Hsh
        have Ho:=hide ho
        clear ho
        obtain ⟨id,ep,rd,md,qr,qb,qw,tr,tw,th,ts,en,nx,rt⟩:=ak
        simp only [bkV] at c0 c1 c2 c3 c4 c5 c6 c7 c8 c9 c10 c11 c12 c13 HT
        go_wp2_with fail
        refine HT.out.mono ?_
        rintro e w2 ⟨lv',rfl,ho',hin,hb2⟩
        rw [show (Value.agg #[.int .i64 id,.int .i64 ep,.int .i64 rd,.string md,.int .i64 qr,.int .i64 qb,lv'.q,.int .i64 tr,lv'.w,lv'.h,lv'.t,.bool en,lv'.n,.string rt])=.agg (bkC ⟨id,ep,rd,md,qr,qb,qw,tr,tw,th,ts,en,nx,rt⟩ lv').toArray from rfl]
        have ho2:=row_below Ho.out hb2 (Nat.le_refl _)
        have hstore:=store14 w2 w.heap.size (k * 14) (bkC ⟨id,ep,rd,md,qr,qb,qw,tr,tw,th,ts,en,nx,rt⟩ lv') rfl (row_there ho2 (by rw [flat_len 14 _ Hsz.out,Hpl.out];omega)) (bkC_one ho'.rd)
        have n1:¬ lv'.has w.heap.size:=fun hk=>by have:=(ho'.in9 _ hk).1;omega
        have HL:Hid (Kvs w.heap.size w2 w.heap.size (Z ++ [(⟨id,ep,rd,md,qr,qb,qw,tr,tw,th,ts,en,nx,rt⟩,lv')])):=hide ((Hlv.out.below hb2 (Nat.le_refl _)).snoc _ (ho'.mono9 hb.size) n1 hin (fun i hi k hk e=>by have:=(Hlv.out.own i hi).in9 k hk;have:=(ho'.in9 k e).1;omega))
        have HP:=hide (putC_grown w.heap.size (bkC ⟨id,ep,rd,md,qr,qb,qw,tr,tw,th,ts,en,nx,rt⟩ lv') w2 (k * 14))
        have HR:=hide (putC_row (bkC ⟨id,ep,rd,md,qr,qb,qw,tr,tw,th,ts,en,nx,rt⟩ lv') w2 (k * 14) _ ho2)
        rw [Hput.out] at HR
        have HF:=hide ((hb.trans (hb2.mono hb.size)).trans (putC_below (Nat.le_refl _) (bkC ⟨id,ep,rd,md,qr,qb,qw,tr,tw,th,ts,en,nx,rt⟩ lv') w2 (k * 14)))
        have HZ3:=hide (HZ2.out lv')
        have hA:(bkC ⟨id,ep,rd,md,qr,qb,qw,tr,tw,th,ts,en,nx,rt⟩ lv').toArray.size=14:=rfl
        clear ho2 hb2 ho' hin HT n1 c0 c1 c2 c3 c4 c5 c6 c7 c8 c9 c10 c11 c12 c13 Hlv Hput HZ2
        generalize hcs:bkC ⟨id,ep,rd,md,qr,qb,qw,tr,tw,th,ts,en,nx,rt⟩ lv'=cs at hstore HP HR HF hA ⊢
        clear hcs
        go_wp2
        go_roundw
        case rel=>exact ⟨k+1,_,by omega,by go_num,HZ3.out,HR.out,HL.out.grown HP.out,HF.out⟩
        case measure=>simp [intOf];omega
      · have e:k=l.length:=by omega
        subst e
        rw [prt_all _ _ _ hZl] at ho
        rw [List.take_length] at hZ
        go_wp2
        go_ret
        exact ⟨_,rfl,⟨_,_,Z,hZ,rfl,ho,hlv⟩,hb⟩
def TwoAt (w:World) (g1 o1 g2 o2:Nat) (b:Bk) (u v:Bv):Prop:=w.cell? ⟨g1,o1,none⟩=some (.int .i64 b.id)/\w.cell? ⟨g1,o1+1,none⟩=some (.int .i64 b.ep)/\w.cell? ⟨g1,o1+2,none⟩=some (.int .i64 b.rd)/\w.cell? ⟨g1,o1+3,none⟩=some (.string b.md)/\w.cell? ⟨g1,o1+4,none⟩=some (.int .i64 b.qr)/\w.cell? ⟨g1,o1+5,none⟩=some (.int .i64 b.qb)/\w.cell? ⟨g1,o1+6,none⟩=some (u.q)/\w.cell? ⟨g1,o1+7,none⟩=some (.int .i64 b.tr)/\w.cell? ⟨g1,o1+8,none⟩=some (u.w)/\w.cell? ⟨g1,o1+9,none⟩=some (u.h)/\w.cell? ⟨g1,o1+10,none⟩=some (u.t)/\w.cell? ⟨g1,o1+11,none⟩=some (.bool b.en)/\w.cell? ⟨g1,o1+12,none⟩=some (u.n)/\w.cell? ⟨g1,o1+13,none⟩=some (.string b.rt)/\w.cell? ⟨g2,o2,none⟩=some (.int .i64 b.id)/\w.cell? ⟨g2,o2+1,none⟩=some (.int .i64 b.ep)/\w.cell? ⟨g2,o2+2,none⟩=some (.int .i64 b.rd)/\w.cell? ⟨g2,o2+3,none⟩=some (.string b.md)/\w.cell? ⟨g2,o2+4,none⟩=some (.int .i64 b.qr)/\w.cell? ⟨g2,o2+5,none⟩=some (.int .i64 b.qb)/\w.cell? ⟨g2,o2+6,none⟩=some (v.q)/\w.cell? ⟨g2,o2+7,none⟩=some (.int .i64 b.tr)/\w.cell? ⟨g2,o2+8,none⟩=some (v.w)/\w.cell? ⟨g2,o2+9,none⟩=some (v.h)/\w.cell? ⟨g2,o2+10,none⟩=some (v.t)/\w.cell? ⟨g2,o2+11,none⟩=some (.bool b.en)/\w.cell? ⟨g2,o2+12,none⟩=some (v.n)/\w.cell? ⟨g2,o2+13,none⟩=some (.string b.rt)
theorem TwoAt.of {w:World} {g1 o1 g2 o2:Nat} {b:Bk} {u v:Bv} (h1:BkAt w g1 o1 b u) (h2:BkAt w g2 o2 b v):TwoAt w g1 o1 g2 o2 b u v :=
  ⟨h1 0 (by omega),h1 1 (by omega),h1 2 (by omega),h1 3 (by omega),h1 4 (by omega),h1 5 (by omega),h1 6 (by omega),h1 7 (by omega),h1 8 (by omega),h1 9 (by omega),h1 10 (by omega),h1 11 (by omega),h1 12 (by omega),h1 13 (by omega),h2 0 (by omega),h2 1 (by omega),h2 2 (by omega),h2 3 (by omega),h2 4 (by omega),h2 5 (by omega),h2 6 (by omega),h2 7 (by omega),h2 8 (by omega),h2 9 (by omega),h2 10 (by omega),h2 11 (by omega),h2 12 (by omega),h2 13 (by omega)⟩
theorem eqBlockS_any (v1 v2:Value) (l:List Bk) (w:World) (hr1:RdKs w v1 l) (hr2:RdKs w v2 l) (hl:l.length<=4000000) (ha:∀ b ∈ l,FewK b) :
    Calls Try.prog 29 #[v1,v2] w fun e w'=>e=.returned (.bool true)/\Below w.heap.size w w':=by
  have hlen:((l.length:Int) != (l.length:Int))=false:=by simp
  rcases hr1 with ⟨a,cap,rfl,rfl,-⟩ | ⟨b,off,cap,h0,rfl,h1,h2,h3,h4⟩
  · obtain ⟨a2,cap2,rfl⟩:=hr2.shape
    clear hr2
    go_enter Try.func29,Try.ntmps29
    go_wp2
    refine wp_loop_rounds 1 ?_
    rw [rounds_succ]
    go_wp2
    go_ret
    exact ⟨rfl,Below.refl _ _⟩
  · rcases hr2 with ⟨a2,cap2,rfl,rfl,-⟩ | ⟨b2,off2,cap2,g0,rfl,g1,g2,g3,g4⟩
    · exact absurd rfl h0
    · have H4:=hide h4
      have G4:=hide g4
      have A1:=hide ha
      clear h4 g4 ha h0 g0
      go_enter Try.func29,Try.ntmps29
      go_wp2
      go_loopw [5] (fun i wr=>∃ k:Nat,k<=l.length/\i=.int .i64 k/\Below w.heap.size w wr) (fun i _=>l.length - (intOf i).toNat)
      case atStart=>exact ⟨0,Nat.zero_le _,rfl,Below.refl _ _⟩
      case round =>
        obtain ⟨k,hk,rfl,hs⟩:=hrel
        by_cases hlt:k < l.length
        · obtain ⟨la,ca,ra⟩:=H4.out k hlt
          obtain ⟨lb,cb',rb⟩:=G4.out k hlt
          have hS1:=TwoAt.of (ca.below hs.drew h3) (cb'.below hs.drew g3)
          have hS3:Hid (∀ w2,Below wr.drew.heap.size wr.drew w2->TwoAt w2 b (off+k * 14) b2 (off2+k * 14) l[k] la lb):=hide (fun w2 hb2=>TwoAt.of ((ca.below hs.drew h3).below hb2 (by have:=hs.drew.size;omega)) ((cb'.below hs.drew g3).below hb2 (by have:=hs.drew.size;omega)))
          have hli:(k:Int) < (l.length:Int):=by omega
          have HE:=hide (eqBlock_any l[k] la lb wr.drew (ra.below hs.drew (Nat.le_refl _)) (rb.below hs.drew (Nat.le_refl _)) (A1.out _ (List.getElem_mem _)))
          have Sa:=hide ra.shapes9
          have Sb:=hide rb.shapes9
          clear ra rb ca cb'
          generalize hp:l[k]=p at hS1 hS3 HE Sa Sb
          clear hp
          obtain ⟨aq,cq,aw,cw,ah,ch,at_,ct,an,cn,rfl⟩:=Sa.out
          obtain ⟨eq_,dq,ew,dw,eh,dh,et,dt,en_,dn,rfl⟩:=Sb.out
          clear Sa Sb
          simp only [bkV,TwoAt] at HE hS1 hS3
          go_wp2
          go_region_held_law (fun w'=>w'.cell? ⟨b,off+k * 14,none⟩=some (.int .i64 p.id)/\w'.cell? ⟨b,off+k * 14+1,none⟩=some (.int .i64 p.ep)/\w'.cell? ⟨b,off+k * 14+2,none⟩=some (.int .i64 p.rd)/\w'.cell? ⟨b,off+k * 14+3,none⟩=some (.string p.md)/\w'.cell? ⟨b,off+k * 14+4,none⟩=some (.int .i64 p.qr)/\w'.cell? ⟨b,off+k * 14+5,none⟩=some (.int .i64 p.qb)/\w'.cell? ⟨b,off+k * 14+6,none⟩=some (.slice aq p.qw.length cq)/\w'.cell? ⟨b,off+k * 14+7,none⟩=some (.int .i64 p.tr)/\w'.cell? ⟨b,off+k * 14+8,none⟩=some (.slice aw p.tw.length cw)/\w'.cell? ⟨b,off+k * 14+9,none⟩=some (.slice ah p.th.length ch)/\w'.cell? ⟨b,off+k * 14+10,none⟩=some (.slice at_ p.ts.length ct)/\w'.cell? ⟨b,off+k * 14+11,none⟩=some (.bool p.en)/\w'.cell? ⟨b,off+k * 14+12,none⟩=some (.slice an p.nx.length cn)/\w'.cell? ⟨b,off+k * 14+13,none⟩=some (.string p.rt)/\w'.cell? ⟨b2,off2+k * 14,none⟩=some (.int .i64 p.id)/\w'.cell? ⟨b2,off2+k * 14+1,none⟩=some (.int .i64 p.ep)/\w'.cell? ⟨b2,off2+k * 14+2,none⟩=some (.int .i64 p.rd)/\w'.cell? ⟨b2,off2+k * 14+3,none⟩=some (.string p.md)/\w'.cell? ⟨b2,off2+k * 14+4,none⟩=some (.int .i64 p.qr)/\w'.cell? ⟨b2,off2+k * 14+5,none⟩=some (.int .i64 p.qb)/\w'.cell? ⟨b2,off2+k * 14+6,none⟩=some (.slice eq_ p.qw.length dq)/\w'.cell? ⟨b2,off2+k * 14+7,none⟩=some (.int .i64 p.tr)/\w'.cell? ⟨b2,off2+k * 14+8,none⟩=some (.slice ew p.tw.length dw)/\w'.cell? ⟨b2,off2+k * 14+9,none⟩=some (.slice eh p.th.length dh)/\w'.cell? ⟨b2,off2+k * 14+10,none⟩=some (.slice et p.ts.length dt)/\w'.cell? ⟨b2,off2+k * 14+11,none⟩=some (.bool p.en)/\w'.cell? ⟨b2,off2+k * 14+12,none⟩=some (.slice en_ p.nx.length dn)/\w'.cell? ⟨b2,off2+k * 14+13,none⟩=some (.string p.rt)) (first | exact hS1 | exact hS2) ((go_at_call 45;refine HE.out.mono ?_;rintro e w2 ⟨rfl,hb2⟩;have hS2:=hS3.out w2 hb2))
          go_wp2
          go_roundw
          case rel=>exact ⟨k+1,by omega,by go_num,hs.drew.trans (hb2.mono hs.size)⟩
          case measure=>simp [intOf];omega
        · go_wp2
          go_ret
          exact ⟨rfl,hs⟩
structure Tg (T1 T2:TypeId) (zs ps:List Value) (w S:World) (os:List Value):Prop where
  p:Blk S w.heap.size T1 ps
  r:Blk S (w.heap.size+1) T2 zs
  o:Blk S (w.heap.size+2) T2 os
  b:Below w.heap.size w S
theorem Tg.lt {T1 T2:TypeId} {zs ps os:List Value} {w S:World} (h:Tg T1 T2 zs ps w S os):w.heap.size+3<=S.heap.size:=by have:=h.o.lt;omega
theorem Tg.call {T1 T2:TypeId} {zs ps os:List Value} {w S S':World} (h:Tg T1 T2 zs ps w S os) (hb:Below S.heap.size S S'):Tg T1 T2 zs ps w S' os :=
  ⟨h.p.below hb h.p.lt,h.r.below hb h.r.lt,h.o.below hb h.o.lt,h.b.trans (hb.mono h.b.size)⟩
theorem Tg.put {T1 T2:TypeId} {zs ps os:List Value} {w S:World} (h:Tg T1 T2 zs ps w S os) (j:Nat) (u:Value):Tg T1 T2 zs ps w (S.setCell ⟨w.heap.size+2,j,none⟩ u) (os.set j u) :=
  ⟨h.p.otherC _ j u (by omega),h.r.otherC _ j u (by omega),h.o.setC j u,h.b.setCell (p:=⟨w.heap.size+2,j,none⟩) (show w.heap.size<=w.heap.size+2 by omega) u⟩
theorem tg_oth {w S S':World} (hb:Below S.heap.size S S') (j:Nat) (u:Value):Oth (fun g=>g=w.heap.size+2) S (S'.setCell ⟨w.heap.size+2,j,none⟩ u) :=
  (Oth.of_below (S:=fun g=>g=w.heap.size+2) hb).set (g:=w.heap.size+2) rfl j u
theorem Blk.there {W:World} {B n:Nat} {t:TypeId} {cs:List Value} (h:Blk W B t cs) (hn:cs.length=n):W.there B 0 n:=fun j hj=>by
  rw [Nat.zero_add]
  exact ⟨by rw [h.cell j,List.getElem?_eq_getElem (by omega)];rfl,h.frozen j⟩
theorem blk_sets {B:Nat} {t:TypeId}:∀ (ys:List Value) (W:World) (o:Nat) (xs:List Value),Blk W B t xs->Blk (W.setCells B o ys) B t (setAll xs o ys)
  | [],W,o,xs,h=>h
  | y :: ys,W,o,xs,h=>blk_sets ys _ (o+1) _ (h.setC o y)
theorem size_sets (g:Nat):∀ (ys:List Value) (w:World) (o:Nat),(w.setCells g o ys).heap.size=w.heap.size
  | [],w,o=>rfl
  | y :: ys,w,o=>(size_sets g ys _ (o+1)).trans (by simp)
theorem blk_all {W:World} {B:Nat} {t:TypeId} {xs ys:List Value} (h:Blk W B t xs) (hl:xs.length=ys.length):Blk (W.setCells B 0 ys) B t ys:=by
  have e:=blk_sets ys W 0 xs h
  have e2:=setAll_whole ys xs [] hl
  simp only [List.nil_append,List.length_nil] at e2
  rw [e2] at e
  exact e
end Go.Proofs.Ytfdbedenlbikgaa
