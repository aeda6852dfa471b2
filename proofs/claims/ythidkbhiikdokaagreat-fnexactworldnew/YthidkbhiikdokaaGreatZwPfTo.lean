/- A proof. -/
import Derived.Test.YthidkbhiikdokaaGreatZwBkEq
import Derived.Test.YthidkbhiikdokaaGreatZwNdMem
import Derived.Test.YthidkbhiikdokaaGreatZwNdNew
set_option maxRecDepth 20000
set_option maxHeartbeats 8000000
namespace Go.Proofs.YthidkbhiikdokaaGreat
open Go.RowKit
set_option linter.unusedVariables false
def TwoAt (w:World) (g1 o1 g2 o2:Nat) (b:Bk) (u v:Bv):Prop:=w.cell? ⟨g1,o1,none⟩=some (.int .i64 b.id)/\w.cell? ⟨g1,o1+1,none⟩=some (.int .i64 b.ep)/\w.cell? ⟨g1,o1+2,none⟩=some (.int .i64 b.rd)/\w.cell? ⟨g1,o1+3,none⟩=some (.string b.md)/\w.cell? ⟨g1,o1+4,none⟩=some (.int .i64 b.qr)/\w.cell? ⟨g1,o1+5,none⟩=some (.int .i64 b.qb)/\w.cell? ⟨g1,o1+6,none⟩=some (u.q)/\w.cell? ⟨g1,o1+7,none⟩=some (.int .i64 b.tr)/\w.cell? ⟨g1,o1+8,none⟩=some (u.w)/\w.cell? ⟨g1,o1+9,none⟩=some (u.h)/\w.cell? ⟨g1,o1+10,none⟩=some (u.t)/\w.cell? ⟨g1,o1+11,none⟩=some (.bool b.en)/\w.cell? ⟨g1,o1+12,none⟩=some (u.n)/\w.cell? ⟨g1,o1+13,none⟩=some (.string b.rt)/\w.cell? ⟨g2,o2,none⟩=some (.int .i64 b.id)/\w.cell? ⟨g2,o2+1,none⟩=some (.int .i64 b.ep)/\w.cell? ⟨g2,o2+2,none⟩=some (.int .i64 b.rd)/\w.cell? ⟨g2,o2+3,none⟩=some (.string b.md)/\w.cell? ⟨g2,o2+4,none⟩=some (.int .i64 b.qr)/\w.cell? ⟨g2,o2+5,none⟩=some (.int .i64 b.qb)/\w.cell? ⟨g2,o2+6,none⟩=some (v.q)/\w.cell? ⟨g2,o2+7,none⟩=some (.int .i64 b.tr)/\w.cell? ⟨g2,o2+8,none⟩=some (v.w)/\w.cell? ⟨g2,o2+9,none⟩=some (v.h)/\w.cell? ⟨g2,o2+10,none⟩=some (v.t)/\w.cell? ⟨g2,o2+11,none⟩=some (.bool b.en)/\w.cell? ⟨g2,o2+12,none⟩=some (v.n)/\w.cell? ⟨g2,o2+13,none⟩=some (.string b.rt)
theorem TwoAt.of {w:World} {g1 o1 g2 o2:Nat} {b:Bk} {u v:Bv} (h1:BkAt w g1 o1 b u) (h2:BkAt w g2 o2 b v):TwoAt w g1 o1 g2 o2 b u v :=
  ⟨h1 0 (by omega),h1 1 (by omega),h1 2 (by omega),h1 3 (by omega),h1 4 (by omega),h1 5 (by omega),h1 6 (by omega),h1 7 (by omega),h1 8 (by omega),h1 9 (by omega),h1 10 (by omega),h1 11 (by omega),h1 12 (by omega),h1 13 (by omega),h2 0 (by omega),h2 1 (by omega),h2 2 (by omega),h2 3 (by omega),h2 4 (by omega),h2 5 (by omega),h2 6 (by omega),h2 7 (by omega),h2 8 (by omega),h2 9 (by omega),h2 10 (by omega),h2 11 (by omega),h2 12 (by omega),h2 13 (by omega)⟩
theorem eqBlockS_any (v1 v2:Value) (l:List Bk) (w:World) (hr1:RdKs w v1 l) (hr2:RdKs w v2 l) (hl:l.length<=4000000) (ha:∀ b ∈ l,FewK b) :
    Calls Tryz.prog 30 #[v1,v2] w fun e w'=>e=.returned (.bool true)/\Below w.heap.size w w':=by
  have hlen:((l.length:Int) != (l.length:Int))=false:=by simp
  rcases hr1 with ⟨a,cap,rfl,rfl,-⟩ | ⟨b,off,cap,h0,rfl,h1,h2,h3,h4⟩
  · obtain ⟨a2,cap2,rfl⟩:=hr2.shape
    clear hr2
    go_enter Tryz.func30,Tryz.ntmps30
    go_wp2
    refine wp_loop_rounds 1 ?_
    rw [rounds_succ]
    go_wp2
    go_ret
    exact ⟨rfl,Below.refl _ _⟩
  · rcases hr2 with ⟨a2,cap2,rfl,rfl,-⟩ | ⟨b2,off2,cap2,g0,rfl,g1,g2,g3,g4⟩
    · exact absurd rfl h0
    · have H4:=hide h4
      have G4:=hide g4
      have A1:=hide ha
      clear h4 g4 ha h0 g0
      go_enter Tryz.func30,Tryz.ntmps30
      go_wp2
      go_loopw [5] (fun i wr=>∃ k:Nat,k<=l.length/\i=.int .i64 k/\Below w.heap.size w wr) (fun i _=>l.length - (intOf i).toNat)
      case atStart=>exact ⟨0,Nat.zero_le _,rfl,Below.refl _ _⟩
      case round =>
        obtain ⟨k,hk,rfl,hs⟩:=hrel
        by_cases hlt:k < l.length
        · obtain ⟨la,ca,ra⟩:=H4.out k hlt
          obtain ⟨lb,cb',rb⟩:=G4.out k hlt
          have hS1:=TwoAt.of (ca.below hs.drew h3) (cb'.below hs.drew g3)
          have hS3:Hid (∀ w2,Below wr.drew.heap.size wr.drew w2->TwoAt w2 b (off+k * 14) b2 (off2+k * 14) l[k] la lb):=hide (fun w2 hb2=>TwoAt.of ((ca.below hs.drew h3).below hb2 (by have:=hs.drew.size;omega)) ((cb'.below hs.drew g3).below hb2 (by have:=hs.drew.size;omega)))
          have hli:(k:Int) < (l.length:Int):=by omega
          have HE:=hide (eqBlock_any l[k] la lb wr.drew (ra.below hs.drew (Nat.le_refl _)) (rb.below hs.drew (Nat.le_refl _)) (A1.out _ (List.getElem_mem _)))
          have Sa:=hide ra.shapes9
          have Sb:=hide rb.shapes9
          clear ra rb ca cb'
          generalize hp:l[k]=p at hS1 hS3 HE Sa Sb
          clear hp
          obtain ⟨aq,cq,aw,cw,ah,ch,at_,ct,an,cn,rfl⟩:=Sa.out
          obtain ⟨eq_,dq,ew,dw,eh,dh,et,dt,en_,dn,rfl⟩:=Sb.out
          clear Sa Sb
          simp only [bkV,TwoAt] at HE hS1 hS3
          go_wp2
          go_region_held_law (fun w'=>w'.cell? ⟨b,off+k * 14,none⟩=some (.int .i64 p.id)/\w'.cell? ⟨b,off+k * 14+1,none⟩=some (.int .i64 p.ep)/\w'.cell? ⟨b,off+k * 14+2,none⟩=some (.int .i64 p.rd)/\w'.cell? ⟨b,off+k * 14+3,none⟩=some (.string p.md)/\w'.cell? ⟨b,off+k * 14+4,none⟩=some (.int .i64 p.qr)/\w'.cell? ⟨b,off+k * 14+5,none⟩=some (.int .i64 p.qb)/\w'.cell? ⟨b,off+k * 14+6,none⟩=some (.slice aq p.qw.length cq)/\w'.cell? ⟨b,off+k * 14+7,none⟩=some (.int .i64 p.tr)/\w'.cell? ⟨b,off+k * 14+8,none⟩=some (.slice aw p.tw.length cw)/\w'.cell? ⟨b,off+k * 14+9,none⟩=some (.slice ah p.th.length ch)/\w'.cell? ⟨b,off+k * 14+10,none⟩=some (.slice at_ p.ts.length ct)/\w'.cell? ⟨b,off+k * 14+11,none⟩=some (.bool p.en)/\w'.cell? ⟨b,off+k * 14+12,none⟩=some (.slice an p.nx.length cn)/\w'.cell? ⟨b,off+k * 14+13,none⟩=some (.string p.rt)/\w'.cell? ⟨b2,off2+k * 14,none⟩=some (.int .i64 p.id)/\w'.cell? ⟨b2,off2+k * 14+1,none⟩=some (.int .i64 p.ep)/\w'.cell? ⟨b2,off2+k * 14+2,none⟩=some (.int .i64 p.rd)/\w'.cell? ⟨b2,off2+k * 14+3,none⟩=some (.string p.md)/\w'.cell? ⟨b2,off2+k * 14+4,none⟩=some (.int .i64 p.qr)/\w'.cell? ⟨b2,off2+k * 14+5,none⟩=some (.int .i64 p.qb)/\w'.cell? ⟨b2,off2+k * 14+6,none⟩=some (.slice eq_ p.qw.length dq)/\w'.cell? ⟨b2,off2+k * 14+7,none⟩=some (.int .i64 p.tr)/\w'.cell? ⟨b2,off2+k * 14+8,none⟩=some (.slice ew p.tw.length dw)/\w'.cell? ⟨b2,off2+k * 14+9,none⟩=some (.slice eh p.th.length dh)/\w'.cell? ⟨b2,off2+k * 14+10,none⟩=some (.slice et p.ts.length dt)/\w'.cell? ⟨b2,off2+k * 14+11,none⟩=some (.bool p.en)/\w'.cell? ⟨b2,off2+k * 14+12,none⟩=some (.slice en_ p.nx.length dn)/\w'.cell? ⟨b2,off2+k * 14+13,none⟩=some (.string p.rt)) (first | exact hS1 | exact hS2) ((go_at_call 61;refine HE.out.mono ?_;rintro e w2 ⟨rfl,hb2⟩;have hS2:=hS3.out w2 hb2))
          go_wp2
          go_roundw
          case rel=>exact ⟨k+1,by omega,by go_num,hs.drew.trans (hb2.mono hs.size)⟩
          case measure=>simp [intOf];omega
        · go_wp2
          go_ret
          exact ⟨rfl,hs⟩
structure FewPf (p:Pf):Prop where
  nb:p.bs.length<=4000000
  fb:∀ b ∈ p.bs,FewK b
  nw:p.qw.length<=4000000
end Go.Proofs.YthidkbhiikdokaaGreat
