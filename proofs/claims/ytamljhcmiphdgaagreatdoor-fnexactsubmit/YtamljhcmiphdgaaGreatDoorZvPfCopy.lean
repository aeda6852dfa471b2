/- A copy of a proof, of the landed code and of the model. -/
import Derived.Test.YtamljhcmiphdgaaGreatDoorZvCpLib
set_option maxRecDepth 20000
set_option maxHeartbeats 8000000
namespace Go.Proofs.YtamljhcmiphdgaaGreatDoor
open Go.RowKit
set_option linter.unusedVariables false
theorem bQ_ (v:Value) (l:List Bk) (w:World) (hr:RdKs w v l) (hl:l.length<=4000000) (hf:∀ b ∈ l,FewK b) :
  Calls Tryz.prog 103 #[v] w fun e w'=>∃ v',e=.returned v'/\OwnKs w.heap.size w' v' l/\Below w.heap.size w w':=by
 obtain ⟨a,cap,rfl⟩:=hr.shape
 obtain ⟨i0,hi,hz0,hz1,hz2⟩:=info_parts Tryz.infoBk
 obtain ⟨w1,hmk,hown0,hg0⟩:=run_make_own (P:=Tryz.prog) (w:=w) w.heap.size 47 146 i0 _ 14 Tryz.underlying47 hi hz0 hz1 .i64 .i64 l.length (by rw [hz2];omega) (by unfold maxLen;omega) (nr_ _)
 have O1:Hid (OwnKs w.heap.size w1 (.slice (some ⟨w.heap.size,0,none⟩) 0 l.length) []):=a_ ⟨w.heap.size,l.length,[],rfl,rfl,hown0,Kvs.nil _ _ _⟩
 have B1:Hid (Below w.heap.size w w1):=a_ ((br_ _ _).grown hg0 (nr_ _) (by intro k hk;cases hk))
 have Hr:=a_ hr
 have Hf:=a_ hf
 clear hr hf hown0 hg0
 go_enter Tryz.func103,Tryz.ntmps103
 go_wp2
 clear hmk
 go_loopw [11,3] (fun iv ov wr=>∃ k:Nat,k<=l.length/\iv=.int .i64 (k:Int)/\OwnKs w.heap.size wr ov (l.take k)/\Below w.heap.size w wr) (fun iv _ _=>l.length - (intOf iv).toNat)
 case atStart=>exact ⟨0,Nat.zero_le _,rfl,O1.out,B1.out⟩
 case round =>
  clear O1 B1
  obtain ⟨k,hk,rfl,ho,hb⟩:=hrel
  by_cases hlt:k < l.length
  ·obtain ⟨b,off,rfl,h3,hcell⟩:=Hr.out.parts9 (by omega)
   obtain ⟨lv,hat,hrl⟩:=hcell k hlt
   obtain ⟨c0,c1,c2,c3,c4,c5,c6,c7,c8,c9,c10,c11,c12,c13⟩:=(hat.below hb h3).cells
   have HRk:=a_ (fun V (hV:Below w.heap.size w V)=>hrl.below hV (nr_ _))
   have HCx:=a_ (fun V (h:RdK V l[k] lv)=>cS_ l[k] lv V h (Hf.out _ (List.getElem_mem hlt)))
   have Hsh:=a_ hrl.shapes9
   have HY:Hid (l.take k ++ [l[k]]=l.take (k+1)):=a_ (by rw [List.take_succ_eq_append_getElem hlt])
   have hki:(k:Int) < (l.length:Int):=by omega
   have hk0:(0:Int)<=(k:Int):=by omega
   have hln:(l.take k).length=k:=by simp;omega
   have Hln:=a_ hln
   obtain ⟨oa,oc,hv0⟩:=ho.rd.shape
   rw [hln] at hv0
   subst hv0
   have Ho:=a_ ho
   have Hb:=a_ hb
   clear hat hrl hcell ho hb hln
   generalize l[k]=ak at c0 c1 c2 c3 c4 c5 c6 c7 c8 c9 c10 c11 c12 c13 HCx Hsh HY HRk
   obtain ⟨aq,cq,aw,cw,ah,ch,at_,ct,an,cn,rfl⟩:=Hsh.out
   clear Hsh
   obtain ⟨id,ep,rd,md,qr,qb,qw,tr,tw,th,ts,en,nx,rt⟩:=ak
   simp only [bkV] at c0 c1 c2 c3 c4 c5 c6 c7 c8 c9 c10 c11 c12 c13 HCx
   obtain ⟨wb,hwb⟩:∃ x,wr.alloc (.cells #[.int .i64 id,.int .i64 ep,.int .i64 rd,.string md,.int .i64 qr,.int .i64 qb,.slice aq qw.length cq,.int .i64 tr,.slice aw tw.length cw,.slice ah th.length ch,.slice at_ ts.length ct,.bool en,.slice an nx.length cn,.string rt] 146)=x:=⟨_,rfl⟩
   have bb:Below wr.heap.size wr wb:=by rw [<- hwb];exact (br_ _ wr).alloc (nr_ _) _
   have kb:Blk wb wr.heap.size 146 [.int .i64 id,.int .i64 ep,.int .i64 rd,.string md,.int .i64 qr,.int .i64 qb,.slice aq qw.length cq,.int .i64 tr,.slice aw tw.length cw,.slice ah th.length ch,.slice at_ ts.length ct,.bool en,.slice an nx.length cn,.string rt]:=by rw [<- hwb];exact Blk.new wr _ _
   have HC:=a_ (HCx.out wb (HRk.out wb (Hb.out.trans (bb.mono Hb.out.size))))
   have d0:=kb.cell 0
   have d1:=kb.cell 1
   have d2:=kb.cell 2
   have d3:=kb.cell 3
   have d4:=kb.cell 4
   have d5:=kb.cell 5
   have d6:=kb.cell 6
   have d7:=kb.cell 7
   have d8:=kb.cell 8
   have d9:=kb.cell 9
   have d10:=kb.cell 10
   have d11:=kb.cell 11
   have d12:=kb.cell 12
   have d13:=kb.cell 13
   simp only [gz_,gs_] at d0 d1 d2 d3 d4 d5 d6 d7 d8 d9 d10 d11 d12 d13
   have Bb:=a_ bb
   clear kb bb HCx HRk
   go_wp2_with fail
   (try rw [hwb])
   refine HC.out.mono ?_
   rintro e w2 ⟨v2,rfl,o2,hin,hb2⟩
   obtain ⟨aq2,cq2,aw2,cw2,ah2,ch2,at2,ct2,an2,cn2,rfl⟩:=o2.rd.shapes9
   simp only at o2 hin ⊢
   obtain ⟨w3,hw3⟩:∃ x,w2.alloc (.cells #[.int .i64 id,.int .i64 ep,.int .i64 rd,.string md,.int .i64 qr,.int .i64 qb,.slice aq2 qw.length cq2,.int .i64 tr,.slice aw2 tw.length cw2,.slice ah2 th.length ch2,.slice at2 ts.length ct2,.bool en,.slice an2 nx.length cn2,.string rt] 146)=x:=⟨_,rfl⟩
   have b3:Below w2.heap.size w2 w3:=by rw [<- hw3];exact (br_ _ w2).alloc (nr_ _) _
   have K3:Hid (Blk w3 w2.heap.size 146 (bkC ⟨id,ep,rd,md,qr,qb,qw,tr,tw,th,ts,en,nx,rt⟩ ⟨.slice aq2 qw.length cq2,.slice aw2 tw.length cw2,.slice ah2 th.length ch2,.slice at2 ts.length ct2,.slice an2 nx.length cn2⟩)):=a_ (by rw [<- hw3];exact Blk.new w2 _ _)
   have O3:=a_ ((o2.below9 b3 (nr_ _)).mono9 Bb.out.size)
   have B3:=a_ (Bb.out.trans ((hb2.trans (b3.mono hb2.size)).mono Bb.out.size))
   have HB3:=a_ (Hb.out.trans (B3.out.mono Hb.out.size))
   have Hin:=a_ hin
   clear o2 hb2 b3 hin HC c0 c1 c2 c3 c4 c5 c6 c7 c8 c9 c10 c11 c12 c13 d0 d1 d2 d3 d4 d5 d6 d7 d8 d9 d10 d11 d12 d13 hwb
   go_wp2_with (at_builtin;(try rw [hw3]);refine ey_ wr w3 rfl _ _ rfl w.heap.size (.slice oa k oc) w2.heap.size (l.take k) ⟨id,ep,rd,md,qr,qb,qw,tr,tw,th,ts,en,nx,rt⟩ ⟨.slice aq2 qw.length cq2,.slice aw2 tw.length cw2,.slice ah2 th.length ch2,.slice at2 ts.length ct2,.slice an2 nx.length cn2⟩ rfl rfl Ho.out B3.out K3.out O3.out Hin.out (by have:=Hln.out;omega) Hb.out.size ?_;intro v5 w5 ho5 hb5)
   have HO5:Hid (OwnKs w.heap.size w5 v5 (l.take (k+1))):=a_ (by rw [<- HY.out];exact ho5)
   go_roundw
   case rel=>exact ⟨k+1,by omega,by go_num,HO5.out,HB3.out.trans hb5⟩
   case measure=>simp [intOf];omega
  ·obtain rfl:k=l.length:=by omega
   rw [List.take_length] at ho
   have Ho:=a_ ho
   obtain ⟨oa,oc,rfl⟩:=ho.rd.shape
   clear ho
   go_wp2
   go_ret
   exact ⟨_,rfl,Ho.out,hb⟩
theorem Blk.sets {W:World} {B:Nat} {t:TypeId} {cs:List Value} (h:Blk W B t cs) {g:Nat} (hne:B ≠ g) (o:Nat) (ys:List Value):Blk (W.setCells g o ys) B t cs :=
 ((Oth.of_grown (S:=fun x=>x=g) (ac_ g ys W o) (fun k e=>by cases e;rfl)).block B h.lt hne).trans h
theorem dU_ {X:World} {a:Act} {R:Ending->World->Prop} {F:List Value} (g:Nat) (h:X.rangeAt g 0 F) (h2:a.tmps[2]?.getD undef=.pointer (some ⟨g,0,none⟩)) (hs:(Tryz.prog.info? 138).map (·.size)=some F.length) (hd:a.defers=[]) (hR:R (.returned (.agg F.toArray)) X):bodyPost Tryz.prog Tryz.f107 R .ret a X:=by
 have hl:=run_loadVar_mid (P:=Tryz.prog) X g 0 138 F _ h Tryz.underlying138 rfl hs
 refine bodyPost_ret (v:=.agg F.toArray) ?_ hd hR
 simp [results,Tryz.f107,h2,asAddr,hl]
theorem dZ_ (p:Pf) (u:Pv) (w:World) (hr:RdPf w p u) (hf:FewPf p) (hlb:p.bs.length<=3999999) :
  Calls Tryz.prog 107 #[pfV p u] w fun e w'=>∃ u',e=.returned (pfV p u')/\OwnPf w.heap.size w'.heap.size w' p u'/\Below w.heap.size w w':=by
 have hnb:=hf.nb
 have hfb:=hf.fb
 have hnw:=hf.nw
 clear hf
 obtain ⟨ep,bs,qr,qb,qw⟩:=p
 obtain ⟨yb,yw⟩:=u
 obtain ⟨hyb,hyw⟩:=hr
 simp only at *
 obtain ⟨adb,cpb,rfl⟩:=hyb.shape
 obtain ⟨adw,cpw,rfl⟩:=hyw.shape
 have E1:=a_ (fun V (hV:Below w.heap.size w V)=>bQ_ (.slice adb bs.length cpb) bs V (hyb.below hV (nr_ _)) (by omega) hfb)
 have E2:=a_ (fun V (hV:Below w.heap.size w V)=>ak_ qr qb (.slice adw qw.length cpw) qw V (hyw.below hV (nr_ _)) hnw)
 simp only [pfV,qcV] at *
 obtain ⟨S0,hS0⟩:∃ x,(w.alloc (.cells #[.int .i64 ep,.slice adb bs.length cpb,.int .i64 qr,.int .i64 qb,.slice adw qw.length cpw] 138)).alloc (.cells #[.int .i64 0,.slice none 0 0,.int .i64 0,.int .i64 0,.slice none 0 0] 138)=x:=⟨_,rfl⟩
 have b0:Below w.heap.size w S0:=by rw [<- hS0];exact ((br_ _ w).alloc (nr_ _) _).alloc (by simp) _
 have K0:=a_ (show Blk S0 w.heap.size 138 [.int .i64 ep,.slice adb bs.length cpb,.int .i64 qr,.int .i64 qb,.slice adw qw.length cpw] from by rw [<- hS0];exact (Blk.new w _ _).below ((br_ (w.heap.size+1) _).alloc (by simp) _) (by omega))
 have R0:=a_ (show Blk S0 (w.heap.size+1) 138 [.int .i64 0,.slice none 0 0,.int .i64 0,.int .i64 0,.slice none 0 0] from by rw [<- hS0];exact Blk.newR _ _ [.int .i64 0,.slice none 0 0,.int .i64 0,.int .i64 0,.slice none 0 0] _ (by simp))
 have HSS:=a_ (fun V (hV:Below S0.heap.size S0 V)=>(show V.cell? ⟨w.heap.size,0,none⟩=some (.int .i64 ep)/\V.cell? ⟨w.heap.size,1,none⟩=some (.slice adb bs.length cpb)/\V.cell? ⟨w.heap.size,2,none⟩=some (.int .i64 qr)/\V.cell? ⟨w.heap.size,3,none⟩=some (.int .i64 qb)/\V.cell? ⟨w.heap.size,4,none⟩=some (.slice adw qw.length cpw) from by
  have k:=K0.out.below hV K0.out.lt
  exact ⟨k.cell 0,k.cell 1,k.cell 2,k.cell 3,k.cell 4⟩))
 have HST:=a_ (fun V (cs:List Value) (hV:Below S0.heap.size S0 V)=>(show (V.setCells (w.heap.size+1) 0 cs).cell? ⟨w.heap.size,0,none⟩=some (.int .i64 ep)/\(V.setCells (w.heap.size+1) 0 cs).cell? ⟨w.heap.size,1,none⟩=some (.slice adb bs.length cpb)/\(V.setCells (w.heap.size+1) 0 cs).cell? ⟨w.heap.size,2,none⟩=some (.int .i64 qr)/\(V.setCells (w.heap.size+1) 0 cs).cell? ⟨w.heap.size,3,none⟩=some (.int .i64 qb)/\(V.setCells (w.heap.size+1) 0 cs).cell? ⟨w.heap.size,4,none⟩=some (.slice adw qw.length cpw) from by
  have k:=(K0.out.below hV K0.out.lt).sets (g:=w.heap.size+1) (by omega) 0 cs
  exact ⟨k.cell 0,k.cell 1,k.cell 2,k.cell 3,k.cell 4⟩))
 have HRR:=a_ (fun V (hV:Below S0.heap.size S0 V)=>R0.out.below hV R0.out.lt)
 have bD:Below S0.heap.size S0 S0.drew:=(br_ S0.heap.size S0).drew
 have hS:=HSS.out _ bD
 have B0:=a_ b0
 have hz0:=R0.out.lt
 clear hyb hyw hfb b0
 go_enter Tryz.func107,Tryz.ntmps107
 go_upto_region 1 with fail
 go_wp2
 (try rw [hS0])
 clear hS0
 refine wp_region_held_drew (S:=fun W=>W.cell? ⟨w.heap.size,0,none⟩=some (.int .i64 ep)/\W.cell? ⟨w.heap.size,1,none⟩=some (.slice adb bs.length cpb)/\W.cell? ⟨w.heap.size,2,none⟩=some (.int .i64 qr)/\W.cell? ⟨w.heap.size,3,none⟩=some (.int .i64 qb)/\W.cell? ⟨w.heap.size,4,none⟩=some (.slice adw qw.length cpw)) (by kernel_rfl) hS (fun hHeld=>?_)
 refine wpAnyH_take (i:=0) (v:=.pointer (some ⟨w.heap.size,0,none⟩)) rfl (by kernel_rfl) (by kernel_rfl) (by kernel_rfl) (fun _ _ _ h=>h) (Or.inl ⟨by rfl,fun W hW=>by (obtain ⟨q0,q1,q2,q3,q4⟩:=hW;go_simp)⟩) (by assumption) ?_
 change wpAnyH Tryz.prog _ _ _ _ _ _ (Act.put _ (some 3) _) _
 simp only [Act.put,sb_,sz_,ss_]
 refine wpAnyH_take (i:=1) (v:=.int .i64 ep) rfl (by kernel_rfl) (by kernel_rfl) (by kernel_rfl) (fun _ _ _ h=>h) (Or.inl ⟨by rfl,fun W hW=>by (obtain ⟨q0,q1,q2,q3,q4⟩:=hW;go_simp)⟩) (by assumption) ?_
 change wpAnyH Tryz.prog _ _ _ _ _ _ (Act.put _ (some 4) _) _
 simp only [Act.put,sb_,sz_,ss_]
 refine wpAnyH_take (i:=2) (v:=.pointer (some ⟨w.heap.size,1,none⟩)) rfl (by kernel_rfl) (by kernel_rfl) (by kernel_rfl) (fun _ _ _ h=>h) (Or.inl ⟨by rfl,fun W hW=>by (obtain ⟨q0,q1,q2,q3,q4⟩:=hW;go_simp)⟩) (by assumption) ?_
 change wpAnyH Tryz.prog _ _ _ _ _ _ (Act.put _ (some 5) _) _
 simp only [Act.put,sb_,sz_,ss_]
 refine wpAnyH_take (i:=3) (v:=.slice adb bs.length cpb) rfl (by kernel_rfl) (by kernel_rfl) (by kernel_rfl) (fun _ _ _ h=>h) (Or.inl ⟨by rfl,fun W hW=>by (obtain ⟨q0,q1,q2,q3,q4⟩:=hW;go_simp)⟩) (by assumption) ?_
 change wpAnyH Tryz.prog _ _ _ _ _ _ (Act.put _ (some 6) _) _
 simp only [Act.put,sb_,sz_,ss_]
 refine wpAnyH_take (i:=5) (v:=.pointer (some ⟨w.heap.size,2,none⟩)) rfl (by kernel_rfl) (by kernel_rfl) (by kernel_rfl) (fun _ _ _ h=>h) (Or.inl ⟨by rfl,fun W hW=>by (obtain ⟨q0,q1,q2,q3,q4⟩:=hW;go_simp)⟩) (by assumption) ?_
 change wpAnyH Tryz.prog _ _ _ _ _ _ (Act.put _ (some 8) _) _
 simp only [Act.put,sb_,sz_,ss_]
 refine wpAnyH_take (i:=6) (v:=.agg #[.int .i64 qr,.int .i64 qb,.slice adw qw.length cpw]) rfl (by kernel_rfl) (by kernel_rfl) (by kernel_rfl) (fun _ _ _ h=>h) (Or.inl ⟨by rfl,fun W hW=>by (obtain ⟨q0,q1,q2,q3,q4⟩:=hW;go_simp)⟩) (by assumption) ?_
 change wpAnyH Tryz.prog _ _ _ _ _ _ (Act.put _ (some 9) _) _
 simp only [Act.put,sb_,sz_,ss_]
 refine wpAnyH_ready (rs:=[4]) (by kernel_rfl) (by simp) ?_
 refine AllReadyH.cons rfl (fun K hK=>?_) AllReadyH.nil
 go_simp
 go_wp2_with (go_at_call 103;(with_reducible refine (E1.out S0.drew (B0.out.trans (bD.mono B0.out.size))).mono ?_);rintro en w1 ⟨v1,rfl,o1,hb1⟩;obtain ⟨ab,cb,hv1⟩:=o1.rd.shape;subst hv1;have b1:=bD.trans (hb1.mono bD.size);have hS1:=HSS.out _ b1;have xb:=o1.kx)
 refine hK.out _ _ hS1 (fun hHeld=>?_)
 try simp only [Act.put,sb_,sz_,ss_]
 refine wpAnyH_ready (rs:=[7]) (by kernel_rfl) (by simp) ?_
 refine AllReadyH.cons rfl (fun K hK=>?_) AllReadyH.nil
 go_simp
 go_wp2_with (go_at_call 104;(with_reducible refine (E2.out w1 (B0.out.trans (b1.mono B0.out.size))).mono ?_);rintro en w2 ⟨v2,rfl,o2,hb2⟩;obtain ⟨aw,cw,hv2⟩:=o2.rd.shape;subst hv2;have b2:=b1.trans (hb2.mono b1.size);have hS2:=HSS.out _ b2;have kr:=HRR.out _ b2;have hS3:=HST.out _ [.int .i64 ep,.slice ab bs.length cb,.int .i64 qr,.int .i64 qb,.slice aw qw.length cw] b2;have xw:=InS.of o2)
 refine hK.out _ _ hS2 (fun hHeld=>?_)
 try simp only [Act.put,sb_,sz_,ss_]
 refine wpAnyH_take (i:=8) (v:=.agg #[.int .i64 ep,.slice ab bs.length cb,.int .i64 qr,.int .i64 qb,.slice aw qw.length cw]) rfl (by kernel_rfl) (by kernel_rfl) (by kernel_rfl) (fun _ _ _ h=>h) (Or.inl ⟨by rfl,fun W hW=>by (obtain ⟨q0,q1,q2,q3,q4⟩:=hW;go_simp)⟩) (by assumption) ?_
 change wpAnyH Tryz.prog _ _ _ _ _ _ (Act.put _ (some 11) _) _
 simp only [Act.put,sb_,sz_,ss_]
 refine wpAnyH_ready (rs:=[9]) (by kernel_rfl) (by simp) ?_
 refine AllReadyH.cons rfl (fun K hK=>?_) AllReadyH.nil
 refine wp_store_mid 138 _ _ rfl (w.heap.size+1) 0 #[.int .i64 ep,.slice ab bs.length cb,.int .i64 qr,.int .i64 qb,.slice aw qw.length cw] rfl rfl (kr.there (n:=5) rfl) (by kernel_rfl) (all_oneCell_toArray (cs:=[.int .i64 ep,.slice ab bs.length cb,.int .i64 qr,.int .i64 qb,.slice aw qw.length cw]) (List.all_eq_true.1 rfl)) ?_
 refine hK.out _ _ hS3 (fun hHeld=>?_)
 refine wpAnyH_done (by kernel_rfl) ?_ _
 have hb2':=B0.out.trans (b2.mono B0.out.size)
 have sz1:=b1.size
 have sz2:=hb2.size
 have HX:=a_ (show Blk (w2.setCells (w.heap.size+1) 0 [.int .i64 ep,.slice ab bs.length cb,.int .i64 qr,.int .i64 qb,.slice aw qw.length cw]) (w.heap.size+1) 138 [.int .i64 ep,.slice ab bs.length cb,.int .i64 qr,.int .i64 qb,.slice aw qw.length cw] from q_ kr rfl)
 have HB:=a_ (hb2'.trans (e_ (B:=w.heap.size) (show w.heap.size<=w.heap.size+1 by omega) [.int .i64 ep,.slice ab bs.length cb,.int .i64 qr,.int .i64 qb,.slice aw qw.length cw] w2 0))
 have Fb:=a_ (((xb.kept (Kept.of_below hb2 (nr_ _))).kept (Kept.setCs w2 0 [.int .i64 ep,.slice ab bs.length cb,.int .i64 qr,.int .i64 qb,.slice aw qw.length cw] (.inl (show w.heap.size+1 < S0.drew.heap.size from Nat.lt_of_lt_of_le hz0 bD.size)))).wide (lo':=w.heap.size) (hi':=w1.heap.size) (by have:=B0.out.size;have:=bD.size;omega) (nr_ _))
 have Fw:=a_ (xw.kept (Kept.setCs w2 0 [.int .i64 ep,.slice ab bs.length cb,.int .i64 qr,.int .i64 qb,.slice aw qw.length cw] (.inl (show w.heap.size+1 < w1.heap.size by omega))))
 have FZ:=a_ (show (w2.setCells (w.heap.size+1) 0 [.int .i64 ep,.slice ab bs.length cb,.int .i64 qr,.int .i64 qb,.slice aw qw.length cw]).heap.size=w2.heap.size from P_ _ _ _ 0)
 have hzz:w.heap.size<=w1.heap.size:=by omega
 clear E1 E2 HSS HST HRR hS hS1 hS2 hS3 kr K0 R0
 go_wp2
 refine dU_ (F:=[.int .i64 ep,.slice ab bs.length cb,.int .i64 qr,.int .i64 qb,.slice aw qw.length cw]) (w.heap.size+1) (c_ HX.out) (by rfl) (by kernel_rfl) rfl ?_
 exact ⟨⟨.slice ab bs.length cb,.slice aw qw.length cw⟩,rfl,⟨⟨w.heap.size,w1.heap.size,w2.heap.size,nr_ _,hzz,sz2,by rw [FZ.out];exact nr_ _,Fb.out,Fw.out⟩⟩,HB.out⟩
theorem dK_ {X:World} {a:Act} {R:Ending->World->Prop} {F:List Value} (g:Nat) (h:X.rangeAt g 0 F) (h2:a.tmps[2]?.getD undef=.pointer (some ⟨g,0,none⟩)) (hs:(Tryz.prog.info? 138).map (·.size)=some F.length) (hd:a.defers=[]) (hR:R (.returned (.agg F.toArray)) X):bodyPost Tryz.prog Tryz.f81 R .ret a X:=by
 have hl:=run_loadVar_mid (P:=Tryz.prog) X g 0 138 F _ h Tryz.underlying138 rfl hs
 refine bodyPost_ret (v:=.agg F.toArray) ?_ hd hR
 simp [results,Tryz.f81,h2,asAddr,hl]
theorem ea_ (p:Pf) (u:Pv) (w:World) (hr:RdPf w p u) (hf:FewPf p) (hlb:p.bs.length<=3999999) :
  Calls Tryz.prog 81 #[pfV p u] w fun e w'=>∃ u',e=.returned (pfV p u')/\OwnPf w.heap.size w'.heap.size w' p u'/\Below w.heap.size w w':=by
 have hnb:=hf.nb
 have hfb:=hf.fb
 have hnw:=hf.nw
 clear hf
 obtain ⟨ep,bs,qr,qb,qw⟩:=p
 obtain ⟨yb,yw⟩:=u
 obtain ⟨hyb,hyw⟩:=hr
 simp only at *
 obtain ⟨adb,cpb,rfl⟩:=hyb.shape
 obtain ⟨adw,cpw,rfl⟩:=hyw.shape
 have E1:=a_ (fun V (hV:Below w.heap.size w V)=>aT_ (.slice adb bs.length cpb) bs V (hyb.below hV (nr_ _)) (by omega) hfb)
 have E2:=a_ (fun V (hV:Below w.heap.size w V)=>an_ qr qb (.slice adw qw.length cpw) qw V (hyw.below hV (nr_ _)) hnw)
 simp only [pfV,qcV] at *
 obtain ⟨S0,hS0⟩:∃ x,(w.alloc (.cells #[.int .i64 ep,.slice adb bs.length cpb,.int .i64 qr,.int .i64 qb,.slice adw qw.length cpw] 138)).alloc (.cells #[.int .i64 0,.slice none 0 0,.int .i64 0,.int .i64 0,.slice none 0 0] 138)=x:=⟨_,rfl⟩
 have b0:Below w.heap.size w S0:=by rw [<- hS0];exact ((br_ _ w).alloc (nr_ _) _).alloc (by simp) _
 have K0:=a_ (show Blk S0 w.heap.size 138 [.int .i64 ep,.slice adb bs.length cpb,.int .i64 qr,.int .i64 qb,.slice adw qw.length cpw] from by rw [<- hS0];exact (Blk.new w _ _).below ((br_ (w.heap.size+1) _).alloc (by simp) _) (by omega))
 have R0:=a_ (show Blk S0 (w.heap.size+1) 138 [.int .i64 0,.slice none 0 0,.int .i64 0,.int .i64 0,.slice none 0 0] from by rw [<- hS0];exact Blk.newR _ _ [.int .i64 0,.slice none 0 0,.int .i64 0,.int .i64 0,.slice none 0 0] _ (by simp))
 have HSS:=a_ (fun V (hV:Below S0.heap.size S0 V)=>(show V.cell? ⟨w.heap.size,0,none⟩=some (.int .i64 ep)/\V.cell? ⟨w.heap.size,1,none⟩=some (.slice adb bs.length cpb)/\V.cell? ⟨w.heap.size,2,none⟩=some (.int .i64 qr)/\V.cell? ⟨w.heap.size,3,none⟩=some (.int .i64 qb)/\V.cell? ⟨w.heap.size,4,none⟩=some (.slice adw qw.length cpw) from by
  have k:=K0.out.below hV K0.out.lt
  exact ⟨k.cell 0,k.cell 1,k.cell 2,k.cell 3,k.cell 4⟩))
 have HST:=a_ (fun V (cs:List Value) (hV:Below S0.heap.size S0 V)=>(show (V.setCells (w.heap.size+1) 0 cs).cell? ⟨w.heap.size,0,none⟩=some (.int .i64 ep)/\(V.setCells (w.heap.size+1) 0 cs).cell? ⟨w.heap.size,1,none⟩=some (.slice adb bs.length cpb)/\(V.setCells (w.heap.size+1) 0 cs).cell? ⟨w.heap.size,2,none⟩=some (.int .i64 qr)/\(V.setCells (w.heap.size+1) 0 cs).cell? ⟨w.heap.size,3,none⟩=some (.int .i64 qb)/\(V.setCells (w.heap.size+1) 0 cs).cell? ⟨w.heap.size,4,none⟩=some (.slice adw qw.length cpw) from by
  have k:=(K0.out.below hV K0.out.lt).sets (g:=w.heap.size+1) (by omega) 0 cs
  exact ⟨k.cell 0,k.cell 1,k.cell 2,k.cell 3,k.cell 4⟩))
 have HRR:=a_ (fun V (hV:Below S0.heap.size S0 V)=>R0.out.below hV R0.out.lt)
 have bD:Below S0.heap.size S0 S0.drew:=(br_ S0.heap.size S0).drew
 have hS:=HSS.out _ bD
 have B0:=a_ b0
 have hz0:=R0.out.lt
 clear hyb hyw hfb b0
 go_enter Tryz.func81,Tryz.ntmps81
 go_upto_region 1 with fail
 go_wp2
 (try rw [hS0])
 clear hS0
 refine wp_region_held_drew (S:=fun W=>W.cell? ⟨w.heap.size,0,none⟩=some (.int .i64 ep)/\W.cell? ⟨w.heap.size,1,none⟩=some (.slice adb bs.length cpb)/\W.cell? ⟨w.heap.size,2,none⟩=some (.int .i64 qr)/\W.cell? ⟨w.heap.size,3,none⟩=some (.int .i64 qb)/\W.cell? ⟨w.heap.size,4,none⟩=some (.slice adw qw.length cpw)) (by kernel_rfl) hS (fun hHeld=>?_)
 refine wpAnyH_take (i:=0) (v:=.pointer (some ⟨w.heap.size,0,none⟩)) rfl (by kernel_rfl) (by kernel_rfl) (by kernel_rfl) (fun _ _ _ h=>h) (Or.inl ⟨by rfl,fun W hW=>by (obtain ⟨q0,q1,q2,q3,q4⟩:=hW;go_simp)⟩) (by assumption) ?_
 change wpAnyH Tryz.prog _ _ _ _ _ _ (Act.put _ (some 3) _) _
 simp only [Act.put,sb_,sz_,ss_]
 refine wpAnyH_take (i:=1) (v:=.int .i64 ep) rfl (by kernel_rfl) (by kernel_rfl) (by kernel_rfl) (fun _ _ _ h=>h) (Or.inl ⟨by rfl,fun W hW=>by (obtain ⟨q0,q1,q2,q3,q4⟩:=hW;go_simp)⟩) (by assumption) ?_
 change wpAnyH Tryz.prog _ _ _ _ _ _ (Act.put _ (some 4) _) _
 simp only [Act.put,sb_,sz_,ss_]
 refine wpAnyH_take (i:=2) (v:=.pointer (some ⟨w.heap.size,1,none⟩)) rfl (by kernel_rfl) (by kernel_rfl) (by kernel_rfl) (fun _ _ _ h=>h) (Or.inl ⟨by rfl,fun W hW=>by (obtain ⟨q0,q1,q2,q3,q4⟩:=hW;go_simp)⟩) (by assumption) ?_
 change wpAnyH Tryz.prog _ _ _ _ _ _ (Act.put _ (some 5) _) _
 simp only [Act.put,sb_,sz_,ss_]
 refine wpAnyH_take (i:=3) (v:=.slice adb bs.length cpb) rfl (by kernel_rfl) (by kernel_rfl) (by kernel_rfl) (fun _ _ _ h=>h) (Or.inl ⟨by rfl,fun W hW=>by (obtain ⟨q0,q1,q2,q3,q4⟩:=hW;go_simp)⟩) (by assumption) ?_
 change wpAnyH Tryz.prog _ _ _ _ _ _ (Act.put _ (some 6) _) _
 simp only [Act.put,sb_,sz_,ss_]
 refine wpAnyH_take (i:=5) (v:=.pointer (some ⟨w.heap.size,2,none⟩)) rfl (by kernel_rfl) (by kernel_rfl) (by kernel_rfl) (fun _ _ _ h=>h) (Or.inl ⟨by rfl,fun W hW=>by (obtain ⟨q0,q1,q2,q3,q4⟩:=hW;go_simp)⟩) (by assumption) ?_
 change wpAnyH Tryz.prog _ _ _ _ _ _ (Act.put _ (some 8) _) _
 simp only [Act.put,sb_,sz_,ss_]
 refine wpAnyH_take (i:=6) (v:=.agg #[.int .i64 qr,.int .i64 qb,.slice adw qw.length cpw]) rfl (by kernel_rfl) (by kernel_rfl) (by kernel_rfl) (fun _ _ _ h=>h) (Or.inl ⟨by rfl,fun W hW=>by (obtain ⟨q0,q1,q2,q3,q4⟩:=hW;go_simp)⟩) (by assumption) ?_
 change wpAnyH Tryz.prog _ _ _ _ _ _ (Act.put _ (some 9) _) _
 simp only [Act.put,sb_,sz_,ss_]
 refine wpAnyH_ready (rs:=[4]) (by kernel_rfl) (by simp) ?_
 refine AllReadyH.cons rfl (fun K hK=>?_) AllReadyH.nil
 go_simp
 go_wp2_with (go_at_call 78;(with_reducible refine (E1.out S0.drew (B0.out.trans (bD.mono B0.out.size))).mono ?_);rintro en w1 ⟨v1,rfl,o1,hb1⟩;obtain ⟨ab,cb,hv1⟩:=o1.rd.shape;subst hv1;have b1:=bD.trans (hb1.mono bD.size);have hS1:=HSS.out _ b1;have xb:=o1.kx)
 refine hK.out _ _ hS1 (fun hHeld=>?_)
 try simp only [Act.put,sb_,sz_,ss_]
 refine wpAnyH_ready (rs:=[7]) (by kernel_rfl) (by simp) ?_
 refine AllReadyH.cons rfl (fun K hK=>?_) AllReadyH.nil
 go_simp
 go_wp2_with (go_at_call 79;(with_reducible refine (E2.out w1 (B0.out.trans (b1.mono B0.out.size))).mono ?_);rintro en w2 ⟨v2,rfl,o2,hb2⟩;obtain ⟨aw,cw,hv2⟩:=o2.rd.shape;subst hv2;have b2:=b1.trans (hb2.mono b1.size);have hS2:=HSS.out _ b2;have kr:=HRR.out _ b2;have hS3:=HST.out _ [.int .i64 ep,.slice ab bs.length cb,.int .i64 qr,.int .i64 qb,.slice aw qw.length cw] b2;have xw:=InS.of o2)
 refine hK.out _ _ hS2 (fun hHeld=>?_)
 try simp only [Act.put,sb_,sz_,ss_]
 refine wpAnyH_take (i:=8) (v:=.agg #[.int .i64 ep,.slice ab bs.length cb,.int .i64 qr,.int .i64 qb,.slice aw qw.length cw]) rfl (by kernel_rfl) (by kernel_rfl) (by kernel_rfl) (fun _ _ _ h=>h) (Or.inl ⟨by rfl,fun W hW=>by (obtain ⟨q0,q1,q2,q3,q4⟩:=hW;go_simp)⟩) (by assumption) ?_
 change wpAnyH Tryz.prog _ _ _ _ _ _ (Act.put _ (some 11) _) _
 simp only [Act.put,sb_,sz_,ss_]
 refine wpAnyH_ready (rs:=[9]) (by kernel_rfl) (by simp) ?_
 refine AllReadyH.cons rfl (fun K hK=>?_) AllReadyH.nil
 refine wp_store_mid 138 _ _ rfl (w.heap.size+1) 0 #[.int .i64 ep,.slice ab bs.length cb,.int .i64 qr,.int .i64 qb,.slice aw qw.length cw] rfl rfl (kr.there (n:=5) rfl) (by kernel_rfl) (all_oneCell_toArray (cs:=[.int .i64 ep,.slice ab bs.length cb,.int .i64 qr,.int .i64 qb,.slice aw qw.length cw]) (List.all_eq_true.1 rfl)) ?_
 refine hK.out _ _ hS3 (fun hHeld=>?_)
 refine wpAnyH_done (by kernel_rfl) ?_ _
 have hb2':=B0.out.trans (b2.mono B0.out.size)
 have sz1:=b1.size
 have sz2:=hb2.size
 have HX:=a_ (show Blk (w2.setCells (w.heap.size+1) 0 [.int .i64 ep,.slice ab bs.length cb,.int .i64 qr,.int .i64 qb,.slice aw qw.length cw]) (w.heap.size+1) 138 [.int .i64 ep,.slice ab bs.length cb,.int .i64 qr,.int .i64 qb,.slice aw qw.length cw] from q_ kr rfl)
 have HB:=a_ (hb2'.trans (e_ (B:=w.heap.size) (show w.heap.size<=w.heap.size+1 by omega) [.int .i64 ep,.slice ab bs.length cb,.int .i64 qr,.int .i64 qb,.slice aw qw.length cw] w2 0))
 have Fb:=a_ (((xb.kept (Kept.of_below hb2 (nr_ _))).kept (Kept.setCs w2 0 [.int .i64 ep,.slice ab bs.length cb,.int .i64 qr,.int .i64 qb,.slice aw qw.length cw] (.inl (show w.heap.size+1 < S0.drew.heap.size from Nat.lt_of_lt_of_le hz0 bD.size)))).wide (lo':=w.heap.size) (hi':=w1.heap.size) (by have:=B0.out.size;have:=bD.size;omega) (nr_ _))
 have Fw:=a_ (xw.kept (Kept.setCs w2 0 [.int .i64 ep,.slice ab bs.length cb,.int .i64 qr,.int .i64 qb,.slice aw qw.length cw] (.inl (show w.heap.size+1 < w1.heap.size by omega))))
 have FZ:=a_ (show (w2.setCells (w.heap.size+1) 0 [.int .i64 ep,.slice ab bs.length cb,.int .i64 qr,.int .i64 qb,.slice aw qw.length cw]).heap.size=w2.heap.size from P_ _ _ _ 0)
 have hzz:w.heap.size<=w1.heap.size:=by omega
 clear E1 E2 HSS HST HRR hS hS1 hS2 hS3 kr K0 R0
 go_wp2
 refine dK_ (F:=[.int .i64 ep,.slice ab bs.length cb,.int .i64 qr,.int .i64 qb,.slice aw qw.length cw]) (w.heap.size+1) (c_ HX.out) (by rfl) (by kernel_rfl) rfl ?_
 exact ⟨⟨.slice ab bs.length cb,.slice aw qw.length cw⟩,rfl,⟨⟨w.heap.size,w1.heap.size,w2.heap.size,nr_ _,hzz,sz2,by rw [FZ.out];exact nr_ _,Fb.out,Fw.out⟩⟩,HB.out⟩
end Go.Proofs.YtamljhcmiphdgaaGreatDoor
