/- Rows of blocks made anew, and held against each other, by the laws. The laws' marks on texts are found again. Orders marked, with what they are then, and held against their marks. The laws' marks on those who vote, and marks found again. -/
import Derived.Test.YtohachldbpejpaaGreatDoorZmTxOpen
import Derived.Test.YtohachldbpejpaaGreatDoorZmBkEq
import Derived.Deep.RegionHeldLaw
import Derived.Test.YtohachldbpejpaaGreatDoorZmAcMark
import Derived.Deep.RegionWith
import Derived.Test.YtohachldbpejpaaGreatDoorZmTxRow
import Derived.Lib.QuietBelow
import Derived.BigQuiet
import Derived.Test.YtohachldbpejpaaGreatDoorZmVsMem
namespace Go.Proofs.YtohachldbpejpaaGreatDoor
open Go.RowKit
set_option linter.unusedVariables false
set_option maxRecDepth 20000 in
set_option maxHeartbeats 8000000 in
theorem toBlockS_any (v:Value) (l:List Bk) (w:World) (hr:RdKs w v l) (hl:l.length<=4000000) (hall:∀ a ∈ l,FewK a) :
    Calls Tryz.prog 30 #[v] w fun e w'=>∃ v',e=.returned v'/\OwnKs w.heap.size w' v' l/\Below w.heap.size w w':=by
  obtain ⟨i0,hi,hz0,hz1,hz2⟩:=info_parts Tryz.infoBk
  rcases hr with ⟨a,cap,rfl,rfl,-⟩ | ⟨b,off,cap,h0,rfl,h1,h2,h3,h4⟩
  · go_enter Tryz.func30,Tryz.ntmps30
    go_wp2_with (refine wpList_make_full _ rfl _ _ 39 rfl w.heap.size 50 i0 (.agg #[.int .i64 0,.int .i64 0,.int .i64 0,.string { data:=#[] },.int .i64 0,.int .i64 0,.slice none 0 0,.int .i64 0,.slice none 0 0,.slice none 0 0,.slice none 0 0,.bool false,.slice none 0 0,.string { data:=#[] }]) 14 Tryz.underlying39 hi hz0 hz1 .i64 .i64 _ _ 0 rfl rfl rfl rfl (by omega) (by unfold maxLen;omega) (Nat.le_refl _) ?_;intro w1 hown hgrow)
    have hb1:Below w.heap.size w w1:=(Below.refl _ _).grown hgrow (Nat.le_refl _) (by intro k hk;cases hk)
    refine wp_loop_rounds 1 ?_
    rw [rounds_succ]
    go_wp2
    go_ret
    have ho':OwnKs w.heap.size w1 (.slice (some ⟨w.heap.size,0,none⟩) 0 0) []:=by
      have e:=made_flat (Value.agg #[.int .i64 0,.int .i64 0,.int .i64 0,.string { data:=#[] },.int .i64 0,.int .i64 0,.slice none 0 0,.int .i64 0,.slice none 0 0,.slice none 0 0,.slice none 0 0,.bool false,.slice none 0 0,.string { data:=#[] }]).cells 14 0 rfl (by omega)
      rw [e] at hown
      exact ⟨_,_,[],rfl,rfl,hown,Kvs.nil _ _ _⟩
    exact ⟨_,rfl,ho',hb1⟩
  · go_enter Tryz.func30,Tryz.ntmps30
    go_wp2_with (refine wpList_make_full _ rfl _ _ 39 rfl w.heap.size 50 i0 (.agg #[.int .i64 0,.int .i64 0,.int .i64 0,.string { data:=#[] },.int .i64 0,.int .i64 0,.slice none 0 0,.int .i64 0,.slice none 0 0,.slice none 0 0,.slice none 0 0,.bool false,.slice none 0 0,.string { data:=#[] }]) 14 Tryz.underlying39 hi hz0 hz1 .i64 .i64 _ _ l.length rfl rfl rfl rfl (by rw [hz2];omega) (by unfold maxLen;omega) (Nat.le_refl _) ?_;intro w1 hown hgrow)
    have hb1:Below w.heap.size w w1:=(Below.refl _ _).grown hgrow (Nat.le_refl _) (by intro k hk;cases hk)
    go_loopw [4] (fun i wr=>∃ (k:Nat) (Z:List (Bk × Bv)),k<=l.length/\i=.int .i64 k/\Z.map (·.1)=l.take k/\wr.ownsRow w.heap.size 50 14 (.slice (some ⟨w.heap.size,0,none⟩) l.length l.length) l.length (prt (Z.map bkP) bkZ l.length).flatten/\Kvs w.heap.size wr w.heap.size Z/\Below w.heap.size w wr)
      (fun i _=>l.length - (intOf i).toNat)
    case atStart =>
      refine ⟨0,[],Nat.zero_le _,rfl,rfl,?_,Kvs.nil _ _ _,hb1⟩
      rw [List.map_nil,prt_zero]
      have e:=made_flat (Value.agg #[.int .i64 0,.int .i64 0,.int .i64 0,.string { data:=#[] },.int .i64 0,.int .i64 0,.slice none 0 0,.int .i64 0,.slice none 0 0,.slice none 0 0,.slice none 0 0,.bool false,.slice none 0 0,.string { data:=#[] }]).cells 14 l.length rfl (by omega)
      rw [e] at hown
      exact hown
    case round =>
      obtain ⟨k,Z,hk,rfl,hZ,ho,hlv,hb⟩:=hrel
      clear hown hgrow hb1
      have hZl:(Z.map bkP).length=k:=by have:=congrArg List.length hZ;simp at this;simp;omega
      by_cases hlt:k < l.length
      · obtain ⟨lv,hat,hrl⟩:=h4 k hlt
        have hat:=hat.below hb h3
        obtain ⟨c0,c1,c2,c3,c4,c5,c6,c7,c8,c9,c10,c11,c12,c13⟩:=hat.cells
        have hli:(k:Int) < (l.length:Int):=by omega
        have psz:=prt_sz 14 (Z.map bkP) bkZ l.length (bkP_sz Z) rfl
        have plen:=prt_len (Z.map bkP) bkZ l.length (by omega)
        have Hg:Hid (∀ j,j < 14->(prt (Z.map bkP) bkZ l.length).flatten[k * 14+j]?=bkZ[j]?):=hide (fun j hj=>by
          rw [flat_get 14 _ k j (by rw [plen];exact hlt) psz hj,prt_at _ _ _ k hZl.symm hlt])
        have HT:=hide (toBlockD_any l[k] lv wr (hrl.below hb (Nat.le_refl _)) (hall l[k] (List.getElem_mem _)))
        have Hput:Hid (∀ lv':Bv,setAll (prt (Z.map bkP) bkZ l.length).flatten (k * 14) (bkC l[k] lv')=(prt ((Z ++ [(l[k],lv')]).map bkP) bkZ l.length).flatten):=hide (fun lv'=>by
          rw [setAll_flat 14 (bkC l[k] lv') _ k (by rw [plen];exact hlt) psz rfl,prt_next _ _ _ _ k hZl.symm hlt,List.map_append]
          rfl)
        have HZ2:Hid (∀ lv':Bv,(Z ++ [(l[k],lv')]).map (·.1)=l.take (k+1)):=hide (fun lv'=>by rw [List.map_append,hZ,List.take_succ_eq_append_getElem hlt];rfl)
        have Hsz:=hide psz
        have Hpl:=hide plen
        have Hlv:=hide hlv
        have hgl:w.heap.size < wr.heap.size:=(World.ownsRow.lt ho w.heap.size rfl).2
        have Hsh:=hide hrl.shapes9
        clear h4 hlv hrl hat psz plen hZl hZ hall Hg
        generalize l[k]=ak at c0 c1 c2 c3 c4 c5 c7 c11 c13 HT Hput HZ2 Hsh
        obtain ⟨aq,cq,aw,cw,ah,ch,at_,ct,an,cn,rfl⟩:=Hsh.out
        clear Hsh
        have Ho:=hide ho
        clear ho
        obtain ⟨id,ep,rd,md,qr,qb,qw,tr,tw,th,ts,en,nx,rt⟩:=ak
        simp only [bkV] at c0 c1 c2 c3 c4 c5 c6 c7 c8 c9 c10 c11 c12 c13 HT
        go_wp2_with fail
        refine HT.out.mono ?_
        rintro e w2 ⟨lv',rfl,ho',hin,hb2⟩
        rw [show (Value.agg #[.int .i64 id,.int .i64 ep,.int .i64 rd,.string md,.int .i64 qr,.int .i64 qb,lv'.q,.int .i64 tr,lv'.w,lv'.h,lv'.t,.bool en,lv'.n,.string rt])=.agg (bkC ⟨id,ep,rd,md,qr,qb,qw,tr,tw,th,ts,en,nx,rt⟩ lv').toArray from rfl]
        have ho2:=row_below Ho.out hb2 (Nat.le_refl _)
        have hstore:=store14 w2 w.heap.size (k * 14) (bkC ⟨id,ep,rd,md,qr,qb,qw,tr,tw,th,ts,en,nx,rt⟩ lv') rfl (row_there ho2 (by rw [flat_len 14 _ Hsz.out,Hpl.out];omega)) (bkC_one ho'.rd)
        have n1:¬ lv'.has w.heap.size:=fun hk=>by have:=(ho'.in9 _ hk).1;omega
        have HL:Hid (Kvs w.heap.size w2 w.heap.size (Z ++ [(⟨id,ep,rd,md,qr,qb,qw,tr,tw,th,ts,en,nx,rt⟩,lv')])):=hide ((Hlv.out.below hb2 (Nat.le_refl _)).snoc _ (ho'.mono9 hb.size) n1 hin (fun i hi k hk e=>by have:=(Hlv.out.own i hi).in9 k hk;have:=(ho'.in9 k e).1;omega))
        have HP:=hide (putC_grown w.heap.size (bkC ⟨id,ep,rd,md,qr,qb,qw,tr,tw,th,ts,en,nx,rt⟩ lv') w2 (k * 14))
        have HR:=hide (putC_row (bkC ⟨id,ep,rd,md,qr,qb,qw,tr,tw,th,ts,en,nx,rt⟩ lv') w2 (k * 14) _ ho2)
        rw [Hput.out] at HR
        have HF:=hide ((hb.trans (hb2.mono hb.size)).trans (putC_below (Nat.le_refl _) (bkC ⟨id,ep,rd,md,qr,qb,qw,tr,tw,th,ts,en,nx,rt⟩ lv') w2 (k * 14)))
        have HZ3:=hide (HZ2.out lv')
        have hA:(bkC ⟨id,ep,rd,md,qr,qb,qw,tr,tw,th,ts,en,nx,rt⟩ lv').toArray.size=14:=rfl
        clear ho2 hb2 ho' hin HT n1 c0 c1 c2 c3 c4 c5 c6 c7 c8 c9 c10 c11 c12 c13 Hlv Hput HZ2
        generalize hcs:bkC ⟨id,ep,rd,md,qr,qb,qw,tr,tw,th,ts,en,nx,rt⟩ lv'=cs at hstore HP HR HF hA ⊢
        clear hcs
        go_wp2
        go_roundw
        case rel=>exact ⟨k+1,_,by omega,by go_num,HZ3.out,HR.out,HL.out.grown HP.out,HF.out⟩
        case measure=>simp [intOf];omega
      · have e:k=l.length:=by omega
        subst e
        rw [prt_all _ _ _ hZl] at ho
        rw [List.take_length] at hZ
        go_wp2
        go_ret
        exact ⟨_,rfl,⟨_,_,Z,hZ,rfl,ho,hlv⟩,hb⟩
def TwoAt (w:World) (g1 o1 g2 o2:Nat) (b:Bk) (u v:Bv):Prop:=w.cell? ⟨g1,o1,none⟩=some (.int .i64 b.id)/\w.cell? ⟨g1,o1+1,none⟩=some (.int .i64 b.ep)/\w.cell? ⟨g1,o1+2,none⟩=some (.int .i64 b.rd)/\w.cell? ⟨g1,o1+3,none⟩=some (.string b.md)/\w.cell? ⟨g1,o1+4,none⟩=some (.int .i64 b.qr)/\w.cell? ⟨g1,o1+5,none⟩=some (.int .i64 b.qb)/\w.cell? ⟨g1,o1+6,none⟩=some (u.q)/\w.cell? ⟨g1,o1+7,none⟩=some (.int .i64 b.tr)/\w.cell? ⟨g1,o1+8,none⟩=some (u.w)/\w.cell? ⟨g1,o1+9,none⟩=some (u.h)/\w.cell? ⟨g1,o1+10,none⟩=some (u.t)/\w.cell? ⟨g1,o1+11,none⟩=some (.bool b.en)/\w.cell? ⟨g1,o1+12,none⟩=some (u.n)/\w.cell? ⟨g1,o1+13,none⟩=some (.string b.rt)/\w.cell? ⟨g2,o2,none⟩=some (.int .i64 b.id)/\w.cell? ⟨g2,o2+1,none⟩=some (.int .i64 b.ep)/\w.cell? ⟨g2,o2+2,none⟩=some (.int .i64 b.rd)/\w.cell? ⟨g2,o2+3,none⟩=some (.string b.md)/\w.cell? ⟨g2,o2+4,none⟩=some (.int .i64 b.qr)/\w.cell? ⟨g2,o2+5,none⟩=some (.int .i64 b.qb)/\w.cell? ⟨g2,o2+6,none⟩=some (v.q)/\w.cell? ⟨g2,o2+7,none⟩=some (.int .i64 b.tr)/\w.cell? ⟨g2,o2+8,none⟩=some (v.w)/\w.cell? ⟨g2,o2+9,none⟩=some (v.h)/\w.cell? ⟨g2,o2+10,none⟩=some (v.t)/\w.cell? ⟨g2,o2+11,none⟩=some (.bool b.en)/\w.cell? ⟨g2,o2+12,none⟩=some (v.n)/\w.cell? ⟨g2,o2+13,none⟩=some (.string b.rt)
theorem TwoAt.of {w:World} {g1 o1 g2 o2:Nat} {b:Bk} {u v:Bv} (h1:BkAt w g1 o1 b u) (h2:BkAt w g2 o2 b v):TwoAt w g1 o1 g2 o2 b u v :=
  ⟨h1 0 (by omega),h1 1 (by omega),h1 2 (by omega),h1 3 (by omega),h1 4 (by omega),h1 5 (by omega),h1 6 (by omega),h1 7 (by omega),h1 8 (by omega),h1 9 (by omega),h1 10 (by omega),h1 11 (by omega),h1 12 (by omega),h1 13 (by omega),h2 0 (by omega),h2 1 (by omega),h2 2 (by omega),h2 3 (by omega),h2 4 (by omega),h2 5 (by omega),h2 6 (by omega),h2 7 (by omega),h2 8 (by omega),h2 9 (by omega),h2 10 (by omega),h2 11 (by omega),h2 12 (by omega),h2 13 (by omega)⟩
set_option maxRecDepth 20000 in
set_option maxHeartbeats 8000000 in
theorem eqBlockS_any (v1 v2:Value) (l:List Bk) (w:World) (hr1:RdKs w v1 l) (hr2:RdKs w v2 l) (hl:l.length<=4000000) (ha:∀ b ∈ l,FewK b) :
    Calls Tryz.prog 33 #[v1,v2] w fun e w'=>e=.returned (.bool true)/\Below w.heap.size w w':=by
  have hlen:((l.length:Int) != (l.length:Int))=false:=by simp
  rcases hr1 with ⟨a,cap,rfl,rfl,-⟩ | ⟨b,off,cap,h0,rfl,h1,h2,h3,h4⟩
  · obtain ⟨a2,cap2,rfl⟩:=hr2.shape
    clear hr2
    go_enter Tryz.func33,Tryz.ntmps33
    go_wp2
    refine wp_loop_rounds 1 ?_
    rw [rounds_succ]
    go_wp2
    go_ret
    exact ⟨rfl,Below.refl _ _⟩
  · rcases hr2 with ⟨a2,cap2,rfl,rfl,-⟩ | ⟨b2,off2,cap2,g0,rfl,g1,g2,g3,g4⟩
    · exact absurd rfl h0
    · have H4:=hide h4
      have G4:=hide g4
      have A1:=hide ha
      clear h4 g4 ha h0 g0
      go_enter Tryz.func33,Tryz.ntmps33
      go_wp2
      go_loopw [5] (fun i wr=>∃ k:Nat,k<=l.length/\i=.int .i64 k/\Below w.heap.size w wr) (fun i _=>l.length - (intOf i).toNat)
      case atStart=>exact ⟨0,Nat.zero_le _,rfl,Below.refl _ _⟩
      case round =>
        obtain ⟨k,hk,rfl,hs⟩:=hrel
        by_cases hlt:k < l.length
        · obtain ⟨la,ca,ra⟩:=H4.out k hlt
          obtain ⟨lb,cb',rb⟩:=G4.out k hlt
          have hS1:=TwoAt.of (ca.below hs.drew h3) (cb'.below hs.drew g3)
          have hS3:Hid (∀ w2,Below wr.drew.heap.size wr.drew w2->TwoAt w2 b (off+k * 14) b2 (off2+k * 14) l[k] la lb):=hide (fun w2 hb2=>TwoAt.of ((ca.below hs.drew h3).below hb2 (by have:=hs.drew.size;omega)) ((cb'.below hs.drew g3).below hb2 (by have:=hs.drew.size;omega)))
          have hli:(k:Int) < (l.length:Int):=by omega
          have HE:=hide (eqBlock_any l[k] la lb wr.drew (ra.below hs.drew (Nat.le_refl _)) (rb.below hs.drew (Nat.le_refl _)) (A1.out _ (List.getElem_mem _)))
          have Sa:=hide ra.shapes9
          have Sb:=hide rb.shapes9
          clear ra rb ca cb'
          generalize hp:l[k]=p at hS1 hS3 HE Sa Sb
          clear hp
          obtain ⟨aq,cq,aw,cw,ah,ch,at_,ct,an,cn,rfl⟩:=Sa.out
          obtain ⟨eq_,dq,ew,dw,eh,dh,et,dt,en_,dn,rfl⟩:=Sb.out
          clear Sa Sb
          simp only [bkV,TwoAt] at HE hS1 hS3
          go_wp2
          go_region_held_law (fun w'=>w'.cell? ⟨b,off+k * 14,none⟩=some (.int .i64 p.id)/\w'.cell? ⟨b,off+k * 14+1,none⟩=some (.int .i64 p.ep)/\w'.cell? ⟨b,off+k * 14+2,none⟩=some (.int .i64 p.rd)/\w'.cell? ⟨b,off+k * 14+3,none⟩=some (.string p.md)/\w'.cell? ⟨b,off+k * 14+4,none⟩=some (.int .i64 p.qr)/\w'.cell? ⟨b,off+k * 14+5,none⟩=some (.int .i64 p.qb)/\w'.cell? ⟨b,off+k * 14+6,none⟩=some (.slice aq p.qw.length cq)/\w'.cell? ⟨b,off+k * 14+7,none⟩=some (.int .i64 p.tr)/\w'.cell? ⟨b,off+k * 14+8,none⟩=some (.slice aw p.tw.length cw)/\w'.cell? ⟨b,off+k * 14+9,none⟩=some (.slice ah p.th.length ch)/\w'.cell? ⟨b,off+k * 14+10,none⟩=some (.slice at_ p.ts.length ct)/\w'.cell? ⟨b,off+k * 14+11,none⟩=some (.bool p.en)/\w'.cell? ⟨b,off+k * 14+12,none⟩=some (.slice an p.nx.length cn)/\w'.cell? ⟨b,off+k * 14+13,none⟩=some (.string p.rt)/\w'.cell? ⟨b2,off2+k * 14,none⟩=some (.int .i64 p.id)/\w'.cell? ⟨b2,off2+k * 14+1,none⟩=some (.int .i64 p.ep)/\w'.cell? ⟨b2,off2+k * 14+2,none⟩=some (.int .i64 p.rd)/\w'.cell? ⟨b2,off2+k * 14+3,none⟩=some (.string p.md)/\w'.cell? ⟨b2,off2+k * 14+4,none⟩=some (.int .i64 p.qr)/\w'.cell? ⟨b2,off2+k * 14+5,none⟩=some (.int .i64 p.qb)/\w'.cell? ⟨b2,off2+k * 14+6,none⟩=some (.slice eq_ p.qw.length dq)/\w'.cell? ⟨b2,off2+k * 14+7,none⟩=some (.int .i64 p.tr)/\w'.cell? ⟨b2,off2+k * 14+8,none⟩=some (.slice ew p.tw.length dw)/\w'.cell? ⟨b2,off2+k * 14+9,none⟩=some (.slice eh p.th.length dh)/\w'.cell? ⟨b2,off2+k * 14+10,none⟩=some (.slice et p.ts.length dt)/\w'.cell? ⟨b2,off2+k * 14+11,none⟩=some (.bool p.en)/\w'.cell? ⟨b2,off2+k * 14+12,none⟩=some (.slice en_ p.nx.length dn)/\w'.cell? ⟨b2,off2+k * 14+13,none⟩=some (.string p.rt)) (first | exact hS1 | exact hS2) ((go_at_call 34;refine HE.out.mono ?_;rintro e w2 ⟨rfl,hb2⟩;have hS2:=hS3.out w2 hb2))
          go_wp2
          go_roundw
          case rel=>exact ⟨k+1,by omega,by go_num,hs.drew.trans (hb2.mono hs.size)⟩
          case measure=>simp [intOf];omega
        · go_wp2
          go_ret
          exact ⟨rfl,hs⟩
end Go.Proofs.YtohachldbpejpaaGreatDoor

namespace Go.Proofs.YtohachldbpejpaaGreatDoor
open Go.RowKit
set_option linter.unusedVariables false
end Go.Proofs.YtohachldbpejpaaGreatDoor

namespace Go.Proofs.YtohachldbpejpaaGreatDoor
open Go.RowKit Go.Sort
set_option linter.unusedVariables false
structure Oth (S:Nat->Prop) (w w':World):Prop where
  os:w'.os=w.os
  tape:w'.tape=w.tape
  output:w'.output=w.output
  size:w.heap.size<=w'.heap.size
  block:∀ k,k < w.heap.size->¬ S k->w'.heap[k]?=w.heap[k]?
theorem Oth.of_below {S:Nat->Prop} {w w':World} (h:Below w.heap.size w w'):Oth S w w':=⟨h.os,h.tape,h.output,h.size,fun k hk _=>h.block k hk⟩
theorem Oth.trans {S:Nat->Prop} {a b c:World} (h:Oth S a b) (k:Oth S b c):Oth S a c :=
  ⟨k.os.trans h.os,k.tape.trans h.tape,k.output.trans h.output,Nat.le_trans h.size k.size,fun i hi ho=>(k.block i (Nat.lt_of_lt_of_le hi h.size) ho).trans (h.block i hi ho)⟩
theorem Oth.mono {S T:Nat->Prop} {a b:World} (h:Oth S a b) (hs:∀ k,S k->T k):Oth T a b:=⟨h.os,h.tape,h.output,h.size,fun k hk hn=>h.block k hk (fun e=>hn (hs k e))⟩
theorem Oth.of_grown {S:Nat->Prop} {w w':World} {row:Option Nat} (h:w.grownBy w' row) (hr:∀ k,row=some k->S k):Oth S w w' :=
  ⟨h.os,h.tape,h.output,h.size,fun k hk ho=>h.block k hk (fun e=>ho (hr k e.symm))⟩
theorem Oth.refl (S:Nat->Prop) (w:World):Oth S w w:=⟨rfl,rfl,rfl,Nat.le_refl _,fun _ _ _=>rfl⟩
theorem Oth.set {S:Nat->Prop} {w w':World} (h:Oth S w w') {g:Nat} (h1:S g) (j:Nat) (u:Value):Oth S w (w'.setCell ⟨g,j,none⟩ u) :=
  h.trans (Oth.of_grown (grown_set w' g j u) (fun k e=>by cases e;exact h1))
theorem row_oth {S:Nat->Prop} {base:Nat} {w w':World} {e:TypeId} {size:Nat} {v:Value} {n:Nat} {xs:List Value} (h:w.ownsRow base e size v n xs) (hb:Oth S w w') (hn:∀ k,v.ownBlock=some k->¬ S k):w'.ownsRow base e size v n xs:=by
  refine ⟨h.1,?_⟩
  rcases h.2 with h' | ⟨g,cap,cur,hv,hbb,hg,r⟩
  · exact .inl h'
  · refine .inr ⟨g,cap,cur,hv,hbb,?_,r⟩
    have hlt:g < w.heap.size:=(Array.getElem?_eq_some_iff.1 hg).1
    rw [hb.block g hlt (hn g (by rw [hv];rfl))]
    exact hg
theorem row_step9 {base g n cap:Nat} {w:World} {T:TypeId} {Y:List Value} (h:w.ownsRow base T 5 (.slice (some ⟨g,0,none⟩) n cap) n Y) (hY:Y.length=5 * n) (i:Nat) (hi:i < 5 * n) :
    (∃ y,w.cell? ⟨g,i,none⟩=some y)/\w.frozen? ⟨g,i,none⟩=false/\∀ u,(w.setCell ⟨g,i,none⟩ u).ownsRow base T 5 (.slice (some ⟨g,0,none⟩) n cap) n (Y.set i u) :=
  ⟨⟨Y[i]'(by omega),by rw [h.cellAt i (by omega)];exact List.getElem?_eq_getElem (by omega)⟩,h.frozenAt i,fun u=>(h.stored i u).1⟩
def mkT (k n:Nat):List Tx5:=(List.range n).map (fun j=>(((k+5 * j:Nat):Int),mtx (k+5 * j+1),mtx (k+5 * j+2),((k+5 * j+3:Nat):Int),((k+5 * j+4:Nat):Int)))
theorem mkT_len (k n:Nat):(mkT k n).length=n:=by simp [mkT]
theorem mkT_at (k n j:Nat) (h:j < (mkT k n).length):(mkT k n)[j]=(((k+5 * j:Nat):Int),mtx (k+5 * j+1),mtx (k+5 * j+2),((k+5 * j+3:Nat):Int),((k+5 * j+4:Nat):Int)):=by simp [mkT]
theorem mixT {M l:List Tx5} {j:Nat} (hl:M.length=l.length) (hj:j < l.length):((M.take j ++ l.drop j).map txC).set j (txC (M[j]'(by omega)))=(M.take (j+1) ++ l.drop (j+1)).map txC:=by
  rw [List.take_succ_eq_append_getElem (by omega),<- List.map_set]
  congr 1
  rw [List.set_append_right _ _ (by simp;omega),List.length_take,show min j M.length=j from by omega,Nat.sub_self,List.drop_eq_getElem_cons hj,List.set_cons_zero,List.append_assoc]
  rfl
theorem mixT_sz (M l:List Tx5) (j:Nat):∀ x ∈ (M.take j ++ l.drop j).map txC,x.length=5:=fun x hx=>by obtain ⟨p,_,rfl⟩:=List.mem_map.1 hx;rfl
set_option maxRecDepth 20000 in
set_option maxHeartbeats 2000000 in
theorem markTxC_any (v:Value) (l:List Tx5) (k base:Nat) (w:World) (ho:OwnT base w v l) (hl:l.length<=10000000) (hk:k+5 * l.length<=90000000) (hk0:0 < k) :
    Calls Tryz.prog 42 #[v,.int .i64 (k:Int)] w fun e w'=>e=.returned (.int .i64 ((k+5 * l.length:Nat):Int))/\OwnT base w' v (mkT k l.length)/\Oth (fun g=>v.ownBlock=some g) w w':=by
  have hML:=mkT_len k l.length
  have hMA:=mkT_at k l.length
  generalize hMd:mkT k l.length=M at hML hMA ⊢
  clear hMd
  by_cases hne:l=[]
  · subst hne
    obtain ⟨a,c,rfl⟩:=ho.rd.shape
    have e2:M=[]:=List.length_eq_zero_iff.1 hML
    subst e2
    have Ho:=hide ho
    clear ho
    go_enter Tryz.func42,Tryz.ntmps42
    go_wp2
    refine wp_loop_rounds 1 ?_
    rw [rounds_succ]
    go_wp2
    go_ret
    exact ⟨by simp <;> rfl,Ho.out,Oth.refl _ _⟩
  · obtain ⟨g,cap,rfl⟩:∃ g cap,v=.slice (some ⟨g,0,none⟩) l.length cap:=by
      rcases ho.2 with ⟨rfl,hn⟩ | ⟨g,cap,cur,rfl,-⟩
      · exact absurd (List.length_eq_zero_iff.1 hn) hne
      · exact ⟨g,cap,rfl⟩
    have Hrow:Hid (w.ownsRow base 35 5 (.slice (some ⟨g,0,none⟩) l.length cap) l.length (l.map txC).flatten):=hide ho
    have HML:=hide hML
    have HMA:=hide hMA
    clear ho hML hMA
    have hS:Hid ((fun x=>(Value.slice (some ⟨g,0,none⟩) l.length cap).ownBlock=some x) g):=hide rfl
    go_enter Tryz.func42,Tryz.ntmps42
    go_wp2
    go_loopw [1,5] (fun kv iv wr=>∃ j:Nat,j<=l.length/\iv=.int .i64 (j:Int)/\kv=.int .i64 ((k+5 * j:Nat):Int)/\wr.ownsRow base 35 5 (.slice (some ⟨g,0,none⟩) l.length cap) l.length ((M.take j ++ l.drop j).map txC).flatten/\Oth (fun x=>(Value.slice (some ⟨g,0,none⟩) l.length cap).ownBlock=some x) w wr)
      (fun _ iv _=>l.length - (intOf iv).toNat)
    case atStart=>exact ⟨0,Nat.zero_le _,rfl,rfl,by simpa using Hrow.out,Oth.refl _ _⟩
    case round =>
      obtain ⟨j,hj,rfl,rfl,hown,hbt⟩:=hrel
      clear Hrow
      have HLl:Hid ((M.take j ++ l.drop j).length=l.length):=hide (by have:=HML.out;simp;omega)
      have hYl:((M.take j ++ l.drop j).map txC).flatten.length=5 * l.length:=by
        rw [flat_len 5 _ (mixT_sz M l j),List.length_map,HLl.out];omega
      by_cases hlt:j < l.length
      · have hli:(j:Int) < (l.length:Int):=by omega
        have Hnx:Hid (k+5 * (j+1)=k+5 * j+5):=hide (by omega)
        have hK1:k+5 * j+5<=90000000:=by omega
        have hK0:0 < k+5 * j:=by omega
        have HEnd:Hid (((((((M.take j ++ l.drop j).map txC).flatten.set (j * 5) (.int .i64 ((k+5 * j:Nat):Int))).set (j * 5+1) (.string (mtx (k+5 * j+1)))).set (j * 5+2) (.string (mtx (k+5 * j+2)))).set (j * 5+3) (.int .i64 ((k+5 * j+3:Nat):Int))).set (j * 5+4) (.int .i64 ((k+5 * j+4:Nat):Int))=((M.take (j+1) ++ l.drop (j+1)).map txC).flatten):=hide (by
          rw [flat_put5 _ j _ _ _ _ _ (by rw [List.length_map,HLl.out];exact hlt) (mixT_sz M l j),<- mixT HML.out hlt,HMA.out j (by have:=HML.out;omega)]
          rfl)
        generalize ((M.take j ++ l.drop j).map txC).flatten=Y at hown hYl HEnd
        generalize k+5 * j=K at Hnx hK1 hK0 HEnd ⊢
        have Hm1:=hide (fun w=>markText_any (K+1) w (by omega) (by omega))
        have Hm2:=hide (fun w=>markText_any (K+1+1) w (by omega) (by omega))
        obtain ⟨⟨y0,q0⟩,f0,s0⟩:=row_step9 hown hYl (j * 5) (by omega)
        have S0:=hide s0
        have Hbt:=hide hbt
        clear hown hbt s0
        go_wp2_with fail
        refine (Hm1.out _).mono ?_
        rintro e w1 ⟨rfl,hb1⟩
        have r1:=row_below (S0.out (.int .i64 (K:Int))) hb1 (Nat.le_refl _)
        have Hbt1:=hide ((Hbt.out.set hS.out (j * 5) (.int .i64 (K:Int))).trans (Oth.of_below hb1))
        clear hb1 q0 f0
        obtain ⟨⟨y1,q1⟩,f1,s1⟩:=row_step9 r1 (by simp [hYl]) (j * 5+1) (by omega)
        have S1:=hide s1
        clear r1 s1
        go_wp2_with fail
        refine (Hm2.out _).mono ?_
        rintro e w2 ⟨rfl,hb2⟩
        have r2:=row_below (S1.out (.string (mtx (K+1)))) hb2 (Nat.le_refl _)
        have Hbt2:=hide ((Hbt1.out.set hS.out (j * 5+1) (.string (mtx (K+1)))).trans (Oth.of_below hb2))
        clear hb2 q1 f1
        obtain ⟨⟨y2,q2⟩,f2,s2⟩:=row_step9 r2 (by simp [hYl]) (j * 5+2) (by omega)
        obtain ⟨⟨y3,q3⟩,f3,-⟩:=row_step9 r2 (by simp [hYl]) (j * 5+3) (by omega)
        obtain ⟨⟨y4,q4⟩,f4,-⟩:=row_step9 r2 (by simp [hYl]) (j * 5+4) (by omega)
        have S2:=hide (fun u2 u3 u4=>(((row_step9 (((row_step9 (s2 u2) (by simp [hYl]) (j * 5+3) (by omega)).2.2) u3) (by simp [hYl]) (j * 5+4) (by omega)).2.2) u4))
        have S3:=hide (S2.out (.string (mtx (K+1+1))) (.int .i64 ((K+3:Nat):Int)) (.int .i64 ((K+4:Nat):Int)))
        rw [show K+1+1=K+2 from rfl] at S3 ⊢
        rw [HEnd.out] at S3
        clear r2 s2 S2 HEnd
        go_wp2
        have e3:(K:Int)+1+1+1=((K+3:Nat):Int):=by omega
        have e4:(K:Int)+1+1+1+1=((K+4:Nat):Int):=by omega
        go_roundw
        case rel =>
          refine ⟨j+1,by omega,by go_num,by rw [Hnx.out];go_num,?_,((Hbt2.out.set hS.out _ _).set hS.out _ _).set hS.out _ _⟩
          exact S3.out
        case measure=>simp [intOf];omega
      · have ej:j=l.length:=by omega
        have e9:M.take j ++ l.drop j=M:=by rw [List.take_of_length_le (by have:=HML.out;omega),List.drop_of_length_le (by omega),List.append_nil]
        rw [e9] at hown
        subst ej
        have Hbt:=hide hbt
        have Ho':Hid (OwnT base wr (.slice (some ⟨g,0,none⟩) l.length cap) M):=hide (by unfold OwnT;rw [HML.out];exact hown)
        clear hown hbt e9 hYl HLl
        go_wp2
        go_ret
        exact ⟨rfl,Ho'.out,Hbt.out⟩
set_option maxRecDepth 20000 in
set_option maxHeartbeats 2000000 in
theorem heldTxS_any (v:Value) (k n:Nat) (w:World) (hr:RdT w v (mkT k n)) (hl:n<=10000000) (hk:k+5 * n<=100000000) (hk0:0 < k) :
    Calls Tryz.prog 44 #[v,.int .i64 (k:Int)] w fun e w'=>e=.returned (.int .i64 ((k+5 * n:Nat):Int))/\Below w.heap.size w w':=by
  have hML:=mkT_len k n
  have hMA:=mkT_at k n
  generalize hMd:mkT k n=M at hML hMA hr
  clear hMd
  rcases hr with ⟨a,cap,rfl,rfl,-⟩ | ⟨b,off,cap,h0,rfl,h1,h2,h3,h4⟩
  · simp at hML
    subst hML
    clear hMA
    go_enter Tryz.func44,Tryz.ntmps44
    go_wp2
    refine wp_loop_rounds 1 ?_
    rw [rounds_succ]
    go_wp2
    go_ret
    exact ⟨rfl,Below.refl _ _⟩
  · have HMA:=hide hMA
    have hMl:n<=M.length:=by omega
    have hMg:M.length<=n:=by omega
    have H4:=hide h4
    clear hML hMA h4
    go_enter Tryz.func44,Tryz.ntmps44
    go_wp2
    go_loopw [1,5] (fun kv iv wr=>∃ j:Nat,j<=n/\iv=.int .i64 (j:Int)/\kv=.int .i64 ((k+5 * j:Nat):Int)/\Below w.heap.size w wr) (fun _ iv _=>n - (intOf iv).toNat)
    case atStart=>exact ⟨0,Nat.zero_le _,rfl,rfl,Below.refl _ _⟩
    case round =>
      obtain ⟨j,hj,rfl,rfl,hb⟩:=hrel
      by_cases hlt:j < n
      · have hjM:j < M.length:=by omega
        have hat:=H4.out j hjM
        have HC:Hid (∀ V,Below w.heap.size w V->V.cell? ⟨b,off+j * 5,none⟩=some (.int .i64 M[j].1)/\V.cell? ⟨b,off+j * 5+1,none⟩=some (.string M[j].2.1)/\V.cell? ⟨b,off+j * 5+2,none⟩=some (.string M[j].2.2.1)/\V.cell? ⟨b,off+j * 5+3,none⟩=some (.int .i64 M[j].2.2.2.1)/\V.cell? ⟨b,off+j * 5+4,none⟩=some (.int .i64 M[j].2.2.2.2)):=hide (fun V hV=>by
          obtain ⟨d0,d1,d2,d3,d4⟩:=hat.below hV h3
          exact ⟨d0,d1,d2,d3,d4⟩)
        rw [HMA.out j hjM] at HC
        simp only at HC
        obtain ⟨K,hK⟩:∃ K:Nat,k+5 * j=K:=⟨_,rfl⟩
        have hK2:K<=150000000:=by omega
        have hK0:0 < K:=by omega
        rw [hK] at HC ⊢
        have HK:=hide hK
        have hli:(j:Int) < (M.length:Int):=by omega
        clear hK hat
        have Hb:=hide hb
        have HM1:=hide (fun V=>markText_any (K+1) V (by omega) (by omega))
        have HM2:=hide (fun V=>markText_any (K+2) V (by omega) (by omega))
        generalize mtx (K+1)=m1 at HC HM1
        generalize mtx (K+2)=m2 at HC HM2
        obtain ⟨c0,c1,-,-,-⟩:=HC.out wr hb
        have g1:=cell_regrown c1
        have HR1:=hide (fun (d:Nat) (os:Array Obj)=>Calls.regrown_of (HM1.out (grow (redrawn wr d) os)))
        have e1:((K+1:Nat):Int)=(K:Int)+1:=by omega
        have e2:((K+2:Nat):Int)=(K:Int)+1+1:=by omega
        rw [e1] at HR1
        clear hb c1 HM1 e1
        go_wp2
        refine wp_region_quiet_below (by kernel_rfl) (by kernel_rfl) ?_
        repeat (go_big_quiet_step ((go_at_call 100;exact HR1.out _ _)))
        refine wpQuiet_nil ?_
        intro _ hw'
        obtain ⟨⟨dq,osq⟩,hw''⟩:=hw'
        subst hw''
        have hb2:=Hb.out.trans ((below_regrown wr dq osq).mono Hb.out.size)
        generalize grow (redrawn wr dq) osq=w2 at hb2 ⊢
        clear g1 HR1 c0 Hb
        obtain ⟨-,-,c2,-,-⟩:=HC.out w2 hb2
        have g2:=cell_regrown c2
        have HR2:=hide (fun (d:Nat) (os:Array Obj)=>Calls.regrown_of (HM2.out (grow (redrawn w2 d) os)))
        rw [e2] at HR2
        have Hb2:=hide hb2
        clear HM2 e2 c2 hb2
        go_wp2
        refine wp_region_quiet_below (by kernel_rfl) (by kernel_rfl) ?_
        repeat (go_big_quiet_step ((go_at_call 100;exact HR2.out _ _)))
        refine wpQuiet_nil ?_
        intro _ hw'
        obtain ⟨⟨dq2,osq2⟩,hw''⟩:=hw'
        subst hw''
        have hb3:=Hb2.out.trans ((below_regrown w2 dq2 osq2).mono Hb2.out.size)
        generalize grow (redrawn w2 dq2) osq2=w3 at hb3 ⊢
        clear g2 HR2 Hb2
        obtain ⟨-,-,-,c3,c4⟩:=HC.out w3 hb3
        have e3:((K+3:Nat):Int)=(K:Int)+1+1+1:=by omega
        have e4:((K+4:Nat):Int)=(K:Int)+1+1+1+1:=by omega
        rw [e3] at c3
        rw [e4] at c4
        clear e3 e4 HC
        go_wp2
        go_roundw
        case rel=>exact ⟨j+1,by omega,by go_num,by rw [show k+5 * (j+1)=K+5 from by have:=HK.out;omega];go_num,hb3⟩
        case measure=>simp [intOf];omega
      · have e:j=n:=by omega
        have He:=hide e
        clear e
        go_wp2
        go_ret
        exact ⟨ret_int (by rw [<- He.out]),hb⟩
end Go.Proofs.YtohachldbpejpaaGreatDoor

namespace Go.Proofs.YtohachldbpejpaaGreatDoor
open Go.RowKit
set_option linter.unusedVariables false
def mkV (k n:Nat):List Vl:=(List.range n).map (fun i=>(mtx (k+2 * i),((k+2 * i+1:Nat):Int)))
theorem mkV_len (k n:Nat):(mkV k n).length=n:=by simp [mkV]
theorem mkV_at (k n j:Nat) (h:j < (mkV k n).length):(mkV k n)[j]=(mtx (k+2 * j),((k+2 * j+1:Nat):Int)):=by simp [mkV]
theorem gen_setV {α β:Type} (M l:List α) (f:α->β) (j:Nat) (hM:M.length=l.length) (hj:j < M.length):((M.take j ++ l.drop j).map f).set j (f M[j])=(M.take (j+1) ++ l.drop (j+1)).map f:=by
  have e1:((M.take j).map f).length=j:=by simp;omega
  rw [List.map_append,List.set_append_right _ _ (by omega),e1,Nat.sub_self,List.drop_eq_getElem_cons (show j < l.length by omega),List.map_cons,List.set_cons_zero,List.take_succ_eq_append_getElem hj,List.map_append,List.map_append,List.append_assoc]
  rfl
set_option maxRecDepth 20000 in
set_option maxHeartbeats 1000000 in
theorem markValS_any (v:Value) (l:List Vl) (k base:Nat) (w:World) (ho:OwnV base w v l) (hl:l.length<=10000000) (hk:k<=100000000) (hk0:0 < k) :
    Calls Tryz.prog 43 #[v,.int .i64 (k:Int)] w fun e w'=>e=.returned (.int .i64 ((k+2 * l.length:Nat):Int))/\OwnV base w' v (mkV k l.length)/\w.grownBy w' v.ownBlock:=by
  have hML:=mkV_len k l.length
  have hMA:=mkV_at k l.length
  generalize hMd:mkV k l.length=M at hML hMA
  clear hMd
  rcases ho.2 with ⟨rfl,hn⟩ | ⟨g,cap,cur,rfl,_,_,_,hcm,_,_⟩
  · have e:l=[]:=List.length_eq_zero_iff.1 hn
    subst e
    have e2:M=[]:=List.length_eq_zero_iff.1 hML
    subst e2
    have Ho:=hide ho
    clear ho
    go_enter Tryz.func43,Tryz.ntmps43
    go_wp2
    refine wp_loop_rounds 1 ?_
    rw [rounds_succ]
    go_wp2
    go_ret
    exact ⟨rfl,Ho.out,World.grownBy.refl _ _⟩
  · have Ho:=hide ho
    have HML:=hide hML
    have HMA:=hide hMA
    have hMl:l.length<=M.length:=by omega
    have hMg:M.length<=l.length:=by omega
    clear ho hML hMA
    go_enter Tryz.func43,Tryz.ntmps43
    go_wp2
    go_loopw [1,5] (fun kv iv wr=>∃ j:Nat,j<=l.length/\iv=.int .i64 (j:Int)/\kv=.int .i64 ((k+2 * j:Nat):Int)/\wr.ownsRow base 124 2 (.slice (some ⟨g,0,none⟩) l.length cap) l.length ((M.take j ++ l.drop j).map vlC).flatten/\w.grownBy wr (some g))
      (fun _ iv _=>l.length - (intOf iv).toNat)
    case atStart=>exact ⟨0,Nat.zero_le _,rfl,rfl,by simpa [OwnV] using Ho.out,World.grownBy.refl _ _⟩
    case round =>
      obtain ⟨j,hj,rfl,rfl,hown,hgr⟩:=hrel
      by_cases hlt:j < l.length
      · have hjM:j < M.length:=by omega
        obtain ⟨K,hK⟩:∃ K:Nat,k+2 * j=K:=⟨_,rfl⟩
        have hK0:0 < K:=by omega
        have hK2:K<=150000000:=by omega
        have eM:vlC M[j]=[.string (mtx K),.int .i64 ((K+1:Nat):Int)]:=by rw [HMA.out j hjM,hK];rfl
        have hsz:=vlM_sz (M.take j ++ l.drop j)
        have hlen:((M.take j ++ l.drop j).map vlC).length=l.length:=by simp;omega
        have Hm:=hide (fun w=>markText_any K w hK0 (by omega))
        obtain ⟨u0,hu0⟩:∃ u,((M.take j ++ l.drop j).map vlC).flatten[j * 2]?=some u:=⟨_,List.getElem?_eq_getElem (by rw [flat_len 2 _ hsz];omega)⟩
        obtain ⟨u1,hu1⟩:∃ u,((M.take j ++ l.drop j).map vlC).flatten[j * 2+1]?=some u:=⟨_,List.getElem?_eq_getElem (by rw [flat_len 2 _ hsz];omega)⟩
        have hli:(j:Int) < (l.length:Int):=by omega
        rw [hK]
        have HK:=hide hK
        have Hput:=hide (flat_put2 ((M.take j ++ l.drop j).map vlC) j (.string (mtx K)) (.int .i64 ((K+1:Nat):Int)) (by rw [hlen];exact hlt) hsz)
        have Heq:=hide (gen_setV M l vlC j HML.out hjM)
        rw [eM] at Heq
        clear hK
        have Hown:=hide hown
        have Hgr:=hide hgr
        clear hown hgr
        go_wp2_with fail
        refine (Hm.out _).mono ?_
        rintro e w1 ⟨rfl,hb1⟩
        have hown:=row_below Hown.out hb1 (Nat.le_refl _)
        have hgr:=grownS_trans Hgr.out (grown_below (some g) hb1)
        have d0:=hown.cellAt (j * 2) (by omega)
        have d1:=hown.cellAt (j * 2+1) (by omega)
        have f0:=hown.frozenAt (j * 2)
        have f1:=hown.frozenAt (j * 2+1)
        rw [hu0] at d0
        rw [hu1] at d1
        have hst:=hown.stored (j * 2) (.string (mtx K))
        have hst2:=hst.1.stored (j * 2+1) (.int .i64 ((K+1:Nat):Int))
        rw [Hput.out,Heq.out] at hst2
        have Hst:=hide hst2.1
        have Hgr2:=hide (grownS_trans (grownS_trans hgr hst.2) hst2.2)
        clear hst hst2 hown hgr hu0 hu1 eM Hown Hgr hb1 Hput Heq
        generalize mtx K=mK at *
        go_wp2
        go_roundw
        case rel=>exact ⟨j+1,by omega,by go_num,by rw [show k+2 * (j+1)=K+2 from by have:=HK.out;omega];go_num,Hst.out,Hgr2.out⟩
        case measure=>simp [intOf];omega
      · have e:M.take j ++ l.drop j=M:=by rw [List.take_of_length_le (by omega),List.drop_of_length_le (by omega),List.append_nil]
        rw [e] at hown
        have ho':OwnV base wr (.slice (some ⟨g,0,none⟩) l.length cap) M:=by
          unfold OwnV
          rw [HML.out]
          exact hown
        have e2:j=l.length:=by omega
        have Ho':=hide ho'
        have Hgr:=hide hgr
        clear ho' hgr hown e
        subst e2
        go_wp2
        go_ret
        exact ⟨rfl,Ho'.out,Hgr.out⟩
set_option maxRecDepth 20000 in
set_option maxHeartbeats 1000000 in
theorem heldValS_any (v:Value) (k n:Nat) (w:World) (hr:RdV w v (mkV k n)) (hl:n<=10000000) (hk:k<=100000000) (hk0:0 < k) :
    Calls Tryz.prog 45 #[v,.int .i64 (k:Int)] w fun e w'=>e=.returned (.int .i64 ((k+2 * n:Nat):Int))/\Below w.heap.size w w':=by
  have hML:=mkV_len k n
  have hMA:=mkV_at k n
  generalize hMd:mkV k n=M at hML hMA hr
  clear hMd
  rcases hr with ⟨a,cap,rfl,rfl,-⟩ | ⟨b,off,cap,h0,rfl,h1,h2,h3,h4⟩
  · simp at hML
    subst hML
    clear hMA
    go_enter Tryz.func45,Tryz.ntmps45
    go_wp2
    refine wp_loop_rounds 1 ?_
    rw [rounds_succ]
    go_wp2
    go_ret
    exact ⟨rfl,Below.refl _ _⟩
  · have HMA:=hide hMA
    have hMl:n<=M.length:=by omega
    have hMg:M.length<=n:=by omega
    have H4:=hide h4
    clear hML hMA h4
    go_enter Tryz.func45,Tryz.ntmps45
    go_wp2
    go_loopw [1,5] (fun kv iv wr=>∃ j:Nat,j<=n/\iv=.int .i64 (j:Int)/\kv=.int .i64 ((k+2 * j:Nat):Int)/\Below w.heap.size w wr) (fun _ iv _=>n - (intOf iv).toNat)
    case atStart=>exact ⟨0,Nat.zero_le _,rfl,rfl,Below.refl _ _⟩
    case round =>
      obtain ⟨j,hj,rfl,rfl,hb⟩:=hrel
      by_cases hlt:j < n
      · have hjM:j < M.length:=by omega
        have hc0:wr.cell? ⟨b,off+j * 2,none⟩=some (.string M[j].1):=(hb.cell (p:=⟨b,off+j * 2,none⟩) h3).trans (H4.out j hjM).1
        have hc1:wr.cell? ⟨b,off+j * 2+1,none⟩=some (.int .i64 M[j].2):=(hb.cell (p:=⟨b,off+j * 2+1,none⟩) h3).trans (H4.out j hjM).2
        obtain ⟨K,hK⟩:∃ K:Nat,k+2 * j=K:=⟨_,rfl⟩
        have hK2:K<=150000000:=by omega
        have hK0:0 < K:=by omega
        rw [HMA.out j hjM,hK] at hc0 hc1
        simp only at hc0 hc1
        rw [hK]
        have HK:=hide hK
        have hli:(j:Int) < (M.length:Int):=by omega
        have Hm:=hide (fun w=>markText_any K w hK0 (by omega))
        have hsz:=hb.size
        have hbw:b < wr.heap.size:=by omega
        have Hb:=hide hb
        clear hK hb
        generalize mtx K=mK at *
        go_wp2_with fail
        go_region_with (go_at_call 100;refine (Hm.out _).mono ?_;rintro e w2 ⟨rfl,hb2⟩;have d0:=(hb2.cell (p:=⟨b,off+j * 2,none⟩) (by exact hbw)).trans (by exact hc0);have d1:=(hb2.cell (p:=⟨b,off+j * 2+1,none⟩) (by exact hbw)).trans (by exact hc1))
        all_goals
          rename Below _ _ _=>hb2
          go_wp2
          go_roundw
          case rel=>exact ⟨j+1,by omega,by go_num,by rw [show k+2 * (j+1)=K+2 from by have:=HK.out;omega];go_num,Hb.out.drew.trans (hb2.mono hsz)⟩
          case measure=>simp [intOf];omega
      · have e:j=n:=by omega
        have He:=hide e
        clear e
        go_wp2
        go_ret
        exact ⟨ret_int (by rw [<- He.out]),hb⟩
end Go.Proofs.YtohachldbpejpaaGreatDoor
