/- A copy of a list of blocks, of the landed code. -/
import Derived.Test.YtaidhenkijjcfaaGreatZrKsApp
set_option maxRecDepth 20000
set_option maxHeartbeats 4000000
namespace Go.Proofs.YtaidhenkijjcfaaGreat
open Go.RowKit
set_option linter.unusedVariables false
section
variable {α:Type}
end
theorem copiedKs_any (v:Value) (l:List Bk) (w:World) (hr:RdKs w v l) (hl:l.length<=4000000) (hf:∀ b ∈ l,FewK b) :
    Calls Tryz.prog 117 #[v] w fun e w'=>∃ v',e=.returned v'/\OwnKs w.heap.size w' v' l/\Below w.heap.size w w':=by
  obtain ⟨a,cap,rfl⟩:=hr.shape
  obtain ⟨i0,hi,hz0,hz1,hz2⟩:=info_parts Tryz.infoBk
  obtain ⟨w1,hmk,hown0,hg0⟩:=run_make_own (P:=Tryz.prog) (w:=w) w.heap.size 39 92 i0 _ 14 Tryz.underlying39 hi hz0 hz1 .i64 .i64 l.length (by rw [hz2];omega) (by unfold maxLen;omega) (Nat.le_refl _)
  have O1:Hid (OwnKs w.heap.size w1 (.slice (some ⟨w.heap.size,0,none⟩) 0 l.length) []):=hide ⟨w.heap.size,l.length,[],rfl,rfl,hown0,Kvs.nil _ _ _⟩
  have B1:Hid (Below w.heap.size w w1):=hide ((Below.refl _ _).grown hg0 (Nat.le_refl _) (by intro k hk;cases hk))
  have Hr:=hide hr
  have Hf:=hide hf
  clear hr hf hown0 hg0
  go_enter Tryz.func117,Tryz.ntmps117
  go_wp2
  clear hmk
  go_loopw [11,3] (fun iv ov wr=>∃ k:Nat,k<=l.length/\iv=.int .i64 (k:Int)/\OwnKs w.heap.size wr ov (l.take k)/\Below w.heap.size w wr) (fun iv _ _=>l.length - (intOf iv).toNat)
  case atStart=>exact ⟨0,Nat.zero_le _,rfl,O1.out,B1.out⟩
  case round =>
    clear O1 B1
    obtain ⟨k,hk,rfl,ho,hb⟩:=hrel
    by_cases hlt:k < l.length
    · obtain ⟨b,off,rfl,h3,hcell⟩:=Hr.out.parts9 (by omega)
      obtain ⟨lv,hat,hrl⟩:=hcell k hlt
      obtain ⟨c0,c1,c2,c3,c4,c5,c6,c7,c8,c9,c10,c11,c12,c13⟩:=(hat.below hb h3).cells
      have HRk:=hide (fun V (hV:Below w.heap.size w V)=>hrl.below hV (Nat.le_refl _))
      have HCx:=hide (fun V (h:RdK V l[k] lv)=>implCopiedK_any l[k] lv V h (Hf.out _ (List.getElem_mem hlt)))
      have Hsh:=hide hrl.shapes9
      have HY:Hid (l.take k ++ [l[k]]=l.take (k+1)):=hide (by rw [List.take_succ_eq_append_getElem hlt])
      have hki:(k:Int) < (l.length:Int):=by omega
      have hk0:(0:Int)<=(k:Int):=by omega
      have hln:(l.take k).length=k:=by simp;omega
      have Hln:=hide hln
      obtain ⟨oa,oc,hv0⟩:=ho.rd.shape
      rw [hln] at hv0
      subst hv0
      have Ho:=hide ho
      have Hb:=hide hb
      clear hat hrl hcell ho hb hln
      generalize l[k]=ak at c0 c1 c2 c3 c4 c5 c6 c7 c8 c9 c10 c11 c12 c13 HCx Hsh HY HRk
      obtain ⟨aq,cq,aw,cw,ah,ch,at_,ct,an,cn,rfl⟩:=Hsh.out
      clear Hsh
      obtain ⟨id,ep,rd,md,qr,qb,qw,tr,tw,th,ts,en,nx,rt⟩:=ak
      simp only [bkV] at c0 c1 c2 c3 c4 c5 c6 c7 c8 c9 c10 c11 c12 c13 HCx
      obtain ⟨wb,hwb⟩:∃ x,wr.alloc (.cells #[.int .i64 id,.int .i64 ep,.int .i64 rd,.string md,.int .i64 qr,.int .i64 qb,.slice aq qw.length cq,.int .i64 tr,.slice aw tw.length cw,.slice ah th.length ch,.slice at_ ts.length ct,.bool en,.slice an nx.length cn,.string rt] 92)=x:=⟨_,rfl⟩
      have bb:Below wr.heap.size wr wb:=by rw [<- hwb];exact (Below.refl _ wr).alloc (Nat.le_refl _) _
      have kb:Blk wb wr.heap.size 92 [.int .i64 id,.int .i64 ep,.int .i64 rd,.string md,.int .i64 qr,.int .i64 qb,.slice aq qw.length cq,.int .i64 tr,.slice aw tw.length cw,.slice ah th.length ch,.slice at_ ts.length ct,.bool en,.slice an nx.length cn,.string rt]:=by rw [<- hwb];exact Blk.new wr _ _
      have HC:=hide (HCx.out wb (HRk.out wb (Hb.out.trans (bb.mono Hb.out.size))))
      have d0:=kb.cell 0
      have d1:=kb.cell 1
      have d2:=kb.cell 2
      have d3:=kb.cell 3
      have d4:=kb.cell 4
      have d5:=kb.cell 5
      have d6:=kb.cell 6
      have d7:=kb.cell 7
      have d8:=kb.cell 8
      have d9:=kb.cell 9
      have d10:=kb.cell 10
      have d11:=kb.cell 11
      have d12:=kb.cell 12
      have d13:=kb.cell 13
      simp only [List.getElem?_cons_zero,List.getElem?_cons_succ] at d0 d1 d2 d3 d4 d5 d6 d7 d8 d9 d10 d11 d12 d13
      have Bb:=hide bb
      clear kb bb HCx HRk
      go_wp2_with fail
      (try rw [hwb])
      refine HC.out.mono ?_
      rintro e w2 ⟨v2,rfl,o2,hin,hb2⟩
      obtain ⟨aq2,cq2,aw2,cw2,ah2,ch2,at2,ct2,an2,cn2,rfl⟩:=o2.rd.shapes9
      simp only at o2 hin ⊢
      obtain ⟨w3,hw3⟩:∃ x,w2.alloc (.cells #[.int .i64 id,.int .i64 ep,.int .i64 rd,.string md,.int .i64 qr,.int .i64 qb,.slice aq2 qw.length cq2,.int .i64 tr,.slice aw2 tw.length cw2,.slice ah2 th.length ch2,.slice at2 ts.length ct2,.bool en,.slice an2 nx.length cn2,.string rt] 92)=x:=⟨_,rfl⟩
      have b3:Below w2.heap.size w2 w3:=by rw [<- hw3];exact (Below.refl _ w2).alloc (Nat.le_refl _) _
      have K3:Hid (Blk w3 w2.heap.size 92 (bkC ⟨id,ep,rd,md,qr,qb,qw,tr,tw,th,ts,en,nx,rt⟩ ⟨.slice aq2 qw.length cq2,.slice aw2 tw.length cw2,.slice ah2 th.length ch2,.slice at2 ts.length ct2,.slice an2 nx.length cn2⟩)):=hide (by rw [<- hw3];exact Blk.new w2 _ _)
      have O3:=hide ((o2.below9 b3 (Nat.le_refl _)).mono9 Bb.out.size)
      have B3:=hide (Bb.out.trans ((hb2.trans (b3.mono hb2.size)).mono Bb.out.size))
      have HB3:=hide (Hb.out.trans (B3.out.mono Hb.out.size))
      have Hin:=hide hin
      clear o2 hb2 b3 hin HC c0 c1 c2 c3 c4 c5 c6 c7 c8 c9 c10 c11 c12 c13 d0 d1 d2 d3 d4 d5 d6 d7 d8 d9 d10 d11 d12 d13 hwb
      go_wp2_with (at_builtin;(try rw [hw3]);refine app_ownKs wr w3 rfl _ _ rfl w.heap.size (.slice oa k oc) w2.heap.size (l.take k) ⟨id,ep,rd,md,qr,qb,qw,tr,tw,th,ts,en,nx,rt⟩ ⟨.slice aq2 qw.length cq2,.slice aw2 tw.length cw2,.slice ah2 th.length ch2,.slice at2 ts.length ct2,.slice an2 nx.length cn2⟩ rfl rfl Ho.out B3.out K3.out O3.out Hin.out (by have:=Hln.out;omega) Hb.out.size ?_;intro v5 w5 ho5 hb5)
      have HO5:Hid (OwnKs w.heap.size w5 v5 (l.take (k+1))):=hide (by rw [<- HY.out];exact ho5)
      go_roundw
      case rel=>exact ⟨k+1,by omega,by go_num,HO5.out,HB3.out.trans hb5⟩
      case measure=>simp [intOf];omega
    · obtain rfl:k=l.length:=by omega
      rw [List.take_length] at ho
      have Ho:=hide ho
      obtain ⟨oa,oc,rfl⟩:=ho.rd.shape
      clear ho
      go_wp2
      go_ret
      exact ⟨_,rfl,Ho.out,hb⟩
end Go.Proofs.YtaidhenkijjcfaaGreat
