/- Accounts held against each other; their size. -/
import Derived.Test.YtamljhcmiphdgaaGreatDoorZvNdMem
import Derived.Test.YtamljhcmiphdgaaGreatDoorZvTgs
set_option maxRecDepth 20000
set_option maxHeartbeats 8000000
namespace Go.Proofs.YtamljhcmiphdgaaGreatDoor
open Go.RowKit
set_option linter.unusedVariables false
structure FewPf (p:Pf):Prop where
 nb:p.bs.length<=4000000
 fb:∀ b ∈ p.bs,FewK b
 nw:p.qw.length<=4000000
theorem Tryz.infoPf:(Tryz.prog.info? 138).map (·.size)=some 5:=by kernel_rfl
theorem gp_ {X:World} {a:Act} {R:Ending->World->Prop} {F:List Value} (g:Nat) (h:X.rangeAt g 0 F) (h2:a.tmps[2]?.getD undef=.pointer (some ⟨g,0,none⟩)) (hs:(Tryz.prog.info? 138).map (·.size)=some F.length) (hd:a.defers=[]) (hR:R (.returned (.agg F.toArray)) X):bodyPost Tryz.prog Tryz.f97 R .ret a X:=by
 have hl:=run_loadVar_mid (P:=Tryz.prog) X g 0 138 F _ h Tryz.underlying138 rfl hs
 refine bodyPost_ret (v:=.agg F.toArray) ?_ hd hR
 simp [results,Tryz.f97,h2,asAddr,hl]
theorem gO_ (p:Pf) (u:Pv) (w:World) (hr:RdPf w p u) (hf:FewPf p) :
  Calls Tryz.prog 97 #[pfV p u] w fun e w'=>∃ u',e=.returned (pfV p u')/\OwnPf w.heap.size w'.heap.size w' p u'/\Below w.heap.size w w':=by
 have hnb:=hf.nb
 have hfb:=hf.fb
 have hnw:=hf.nw
 clear hf
 obtain ⟨ep,bs,qr,qb,qw⟩:=p
 obtain ⟨yb,yw⟩:=u
 obtain ⟨hyb,hyw⟩:=hr
 simp only at *
 obtain ⟨adb,cpb,rfl⟩:=hyb.shape
 obtain ⟨adw,cpw,rfl⟩:=hyw.shape
 have E1:=a_ (fun V (hV:Below w.heap.size w V)=>bD_ (.slice adb bs.length cpb) bs V (hyb.below hV (nr_ _)) hnb hfb)
 have E2:=a_ (fun V (hV:Below w.heap.size w V)=>cJ_ qr qb (.slice adw qw.length cpw) qw V (hyw.below hV (nr_ _)) hnw)
 clear hyb hyw
 clear hfb
 simp only [pfV,qcV] at *
 go_enter Tryz.func97,Tryz.ntmps97
 go_wp2_with fail
 obtain ⟨S0,hS0⟩:∃ x,((w.alloc (.cells #[.int .i64 ep,.slice adb bs.length cpb,.int .i64 qr,.int .i64 qb,.slice adw qw.length cpw] 132)).alloc (.cells #[.int .i64 0,.slice none 0 0,.int .i64 0,.int .i64 0,.slice none 0 0] 138)).alloc (.cells #[.int .i64 ep,.slice none 0 0,.int .i64 0,.int .i64 0,.slice none 0 0] 138)=x:=⟨_,rfl⟩
 rw [hS0]
 have C0:=a_ (show Tg 132 138 [.int .i64 0,.slice none 0 0,.int .i64 0,.int .i64 0,.slice none 0 0] [.int .i64 ep,.slice adb bs.length cpb,.int .i64 qr,.int .i64 qb,.slice adw qw.length cpw] w S0 [.int .i64 ep,.slice none 0 0,.int .i64 0,.int .i64 0,.slice none 0 0] from by
  rw [<- hS0]
  exact ⟨(Blk.new w _ _).below (((br_ (w.heap.size+1) _).alloc (by simp) _).alloc (by simp) _) (by omega),(Blk.newR _ _ [.int .i64 0,.slice none 0 0,.int .i64 0,.int .i64 0,.slice none 0 0] _ (by simp)).below ((br_ (w.heap.size+2) _).alloc (by simp) _) (by omega),Blk.newR _ _ [.int .i64 ep,.slice none 0 0,.int .i64 0,.int .i64 0,.slice none 0 0] _ (by simp),(((br_ _ w).alloc (nr_ _) _).alloc (by simp) _).alloc (by simp;omega) _⟩)
 clear hS0
 refine (E1.out S0 C0.out.b).mono ?_
 rintro e w1 ⟨v1,rfl,o1,hb1⟩
 obtain ⟨bdb,bpb,rfl⟩:=o1.rd.shape
 have G1:=C0.out.call hb1
 have q1:=G1.o.cell 1
 have g1:=G1.o.frozen 1
 simp only [gz_,gs_] at q1
 obtain ⟨S1,hS1⟩:∃ x,(w1).setCell ⟨w.heap.size+2,1,none⟩ (.slice bdb bs.length bpb)=x:=⟨_,rfl⟩
 have C1:=a_ (show Tg 132 138 [.int .i64 0,.slice none 0 0,.int .i64 0,.int .i64 0,.slice none 0 0] [.int .i64 ep,.slice adb bs.length cpb,.int .i64 qr,.int .i64 qb,.slice adw qw.length cpw] w S1 [.int .i64 ep,.slice bdb bs.length bpb,.int .i64 0,.int .i64 0,.slice none 0 0] from by rw [<- hS1];exact (G1.put 1 _))
 have P1:=a_ (show Oth (fun g=>g=w.heap.size+2) S0 S1 from by rw [<- hS1];exact (z_ hb1 1 _))
 have N1:=a_ (show w1.heap.size=S1.heap.size from by rw [<- hS1];simp)
 have Rb:=a_ (show OwnKx S0.heap.size S1.heap.size S1 (.slice bdb bs.length bpb) bs from by rw [<- N1.out,<- hS1];exact ((OwnKs.kx o1)).kept (Kept.set _ 1 _ (.inl (by have:=C0.out.lt;omega))))
 clear G1 hb1 o1
 have p2:=C1.out.p.cell 2
 have p3:=C1.out.p.cell 3
 have p4:=C1.out.p.cell 4
 simp only [gz_,gs_] at p2 p3 p4
 go_wp2_with fail
 (try rw [hS1])
 clear p2 p3 p4 q1 g1  hS1
 refine (E2.out S1 C1.out.b).mono ?_
 rintro e w2 ⟨v2,rfl,o2,hb2⟩
 obtain ⟨bdw,bpw,rfl⟩:=o2.rd.shape
 have G2:=C1.out.call hb2
 have q2:=G2.o.cell 2
 have g2:=G2.o.frozen 2
 have q3:=G2.o.cell 3
 have g3:=G2.o.frozen 3
 have q4:=G2.o.cell 4
 have g4:=G2.o.frozen 4
 simp only [gz_,gs_] at q2 q3 q4
 obtain ⟨S2,hS2⟩:∃ x,(((w2).setCell ⟨w.heap.size+2,2,none⟩ (.int .i64 qr)).setCell ⟨w.heap.size+2,3,none⟩ (.int .i64 qb)).setCell ⟨w.heap.size+2,4,none⟩ (.slice bdw qw.length bpw)=x:=⟨_,rfl⟩
 have C2:=a_ (show Tg 132 138 [.int .i64 0,.slice none 0 0,.int .i64 0,.int .i64 0,.slice none 0 0] [.int .i64 ep,.slice adb bs.length cpb,.int .i64 qr,.int .i64 qb,.slice adw qw.length cpw] w S2 [.int .i64 ep,.slice bdb bs.length bpb,.int .i64 qr,.int .i64 qb,.slice bdw qw.length bpw] from by rw [<- hS2];exact (((G2.put 2 _).put 3 _).put 4 _))
 have P2:=a_ (show Oth (fun g=>g=w.heap.size+2) S1 S2 from by rw [<- hS2];exact (((z_ hb2 2 _).set (S:=fun g=>g=w.heap.size+2) rfl 3 _).set (S:=fun g=>g=w.heap.size+2) rfl 4 _))
 have N2:=a_ (show w2.heap.size=S2.heap.size from by rw [<- hS2];simp)
 have Rw:=a_ (show InS S1.heap.size S2.heap.size S2 (.slice bdw qw.length bpw) qw from by rw [<- N2.out,<- hS2];exact ((InS.of o2)).kept (((Kept.set _ 2 _ (.inl (by have:=C1.out.lt;omega))).trans (Kept.set _ 3 _ (.inl (by have:=C1.out.lt;omega)))).trans (Kept.set _ 4 _ (.inl (by have:=C1.out.lt;omega)))))
 clear G2 hb2 o2
 have hz0:=C0.out.lt
 obtain ⟨F,hF⟩:∃ x,([.int .i64 ep,.slice bdb bs.length bpb,.int .i64 qr,.int .i64 qb,.slice bdw qw.length bpw]:List Value)=x:=⟨_,rfl⟩
 have hFl:F.length=5:=by rw [<- hF];rfl
 have hF1:F.toArray.all (·.oneCell')=true:=by rw [List.all_toArray,<- hF];rfl
 have Hsz:=a_ (show (Tryz.prog.info? 138).map (·.size)=some F.length from by rw [hFl];exact Tryz.infoPf)
 have Hld:=a_ (show S2.rangeAt (w.heap.size+2) 0 F from by rw [<- hF];exact c_ C2.out.o)
 have HRk:=a_ (show Blk S2 (w.heap.size+1) 138 [.int .i64 0,.slice none 0 0,.int .i64 0,.int .i64 0,.slice none 0 0] from C2.out.r)
 have Hth:=a_ (show S2.there (w.heap.size+1) 0 F.toArray.size from by rw [show F.toArray.size=5 from by simpa using hFl];exact HRk.out.there rfl)
 have HX:=a_ (show Blk (S2.setCells (w.heap.size+1) 0 F) (w.heap.size+1) 138 F from by rw [<- hF];exact q_ HRk.out (by rfl))
 have HB:=a_ (C2.out.b.trans (e_ (B:=w.heap.size) (show w.heap.size<=w.heap.size+1 by omega) F S2 0))
 have Y1:=(show S0.heap.size<=S1.heap.size from P1.out.size)
 have Y2:=(show S1.heap.size<=S2.heap.size from P2.out.size)
 have Fb:=a_ (show OwnKx S0.heap.size S1.heap.size (S2.setCells (w.heap.size+1) 0 F) (.slice bdb bs.length bpb) bs from ((Rb.out.kept (Kept.of_oth P2.out (fun g a b e=>by have e9:g=w.heap.size+2:=e;omega))).kept (Kept.setCs _ 0 F (.inl (by omega)))))
 have Fw:=a_ (show InS S1.heap.size S2.heap.size (S2.setCells (w.heap.size+1) 0 F) (.slice bdw qw.length bpw) qw from (Rw.out.kept (Kept.setCs _ 0 F (.inl (by omega)))))
 have FZ:=a_ (show (S2.setCells (w.heap.size+1) 0 F).heap.size=S2.heap.size from P_ _ F _ 0)
 have FY:=a_ (show w.heap.size<=S0.heap.size from by omega)
 have W1:=a_ Y1
 have W2:=a_ Y2
 clear hz0 Y1 Y2 Rb Rw P1 C1 N1 P2 C2 N2 E1 E2 C0 HRk hFl
 go_wp2_with (first
  | (refine wpList_load_mid rfl 138 _ rfl (w.heap.size+2) 0 rfl F _ Hld.out Tryz.underlying138 rfl Hsz.out ?_)
  | (refine wpList_store_mid rfl 138 _ _ rfl (w.heap.size+1) 0 F.toArray rfl rfl Hth.out (by simpa using Hsz.out) hF1 ?_)
  | fail)
 (try rw [hS2])
 (try simp only [List.toList_toArray])
 refine gp_ (F:=F) (w.heap.size+1) (c_ HX.out) (by rfl) Hsz.out rfl ?_
 subst hF
 have fz:=FZ.out
 have fy:=FY.out
 have o1:=W1.out
 have o2:=W2.out
 refine ⟨⟨.slice bdb bs.length bpb,.slice bdw qw.length bpw⟩,rfl,⟨⟨S0.heap.size,S1.heap.size,S2.heap.size,by omega,by omega,by omega,by omega,Fb.out.wide (by omega) (by omega),Fw.out.wide (by omega) (by omega)⟩⟩,HB.out⟩
theorem bX_ {w:World} {p:Pf} {u:Pv} (h:RdPf w p u):(pfC p u).all (·.oneCell')=true:=by
 obtain ⟨adb,cpb,eqb⟩:=h.kb.shape
 obtain ⟨adw,cpw,eqw⟩:=h.kw.shape
 simp [pfC,Value.oneCell',eqb,eqw]
theorem Tryz.infoRPf:(Tryz.prog.info? 138).map (fun i=>(i.zero,i.size,i.bytes))=some (some (.agg #[.int .i64 0,.slice none 0 0,.int .i64 0,.int .i64 0,.slice none 0 0]),5,72):=by kernel_rfl
theorem Tryz.infoWPf:(Tryz.prog.info? 132).map (·.size)=some 5:=by kernel_rfl
theorem fz_ (v:Value) (l:List Pf) (w:World) (hr:RdPs w v l) (hl:l.length<=4000000) (hall:∀ a ∈ l,FewPf a) :
  Calls Tryz.prog 35 #[v] w fun e w'=>∃ v',e=.returned v'/\OwnPx w.heap.size w'.heap.size w' v' l/\Below w.heap.size w w':=by
 obtain ⟨i0,hi,hz0,hz1,hz2⟩:=info_parts Tryz.infoRPf
 obtain ⟨Z0,rfl,hr⟩:=hr
 have hl':Z0.length<=4000000:=by simpa using hl
 rcases hr with ⟨a,cap,rfl,rfl,-⟩ | ⟨b,off,cap,h0,rfl,h1,h2,h3,h4⟩
 ·go_enter Tryz.func35,Tryz.ntmps35
  go_wp2_with (refine wpList_make_full _ rfl _ _ 53 rfl w.heap.size 138 i0 (.agg #[.int .i64 0,.slice none 0 0,.int .i64 0,.int .i64 0,.slice none 0 0]) 5 Tryz.underlying53 hi hz0 hz1 .i64 .i64 _ _ 0 rfl rfl rfl rfl (by omega) (by unfold maxLen;omega) (nr_ _) ?_;intro w1 hown hgrow)
  have hb1:Below w.heap.size w w1:=(br_ _ _).grown hgrow (nr_ _) (by intro k hk;cases hk)
  refine wp_loop_rounds 1 ?_
  rw [rounds_succ]
  go_wp2
  go_ret
  have e:=w_ (Value.agg #[.int .i64 0,.slice none 0 0,.int .i64 0,.int .i64 0,.slice none 0 0]).cells 5 0 rfl (by omega)
  rw [e] at hown
  exact ⟨_,rfl,⟨[],rfl,hown,af_ hown,Parts.nil _ _ _ _ _⟩,hb1⟩
 ·obtain ⟨N,hN⟩:∃ N,Z0.length=N:=⟨_,rfl⟩
  rw [hN] at h1 hl' ⊢
  go_enter Tryz.func35,Tryz.ntmps35
  go_wp2_with (refine wpList_make_full _ rfl _ _ 53 rfl w.heap.size 138 i0 (.agg #[.int .i64 0,.slice none 0 0,.int .i64 0,.int .i64 0,.slice none 0 0]) 5 Tryz.underlying53 hi hz0 hz1 .i64 .i64 _ _ N rfl rfl rfl rfl (by rw [hz2];omega) (by unfold maxLen;omega) (nr_ _) ?_;intro w1 hown hgrow)
  have hb1:Below w.heap.size w w1:=(br_ _ _).grown hgrow (nr_ _) (by intro k hk;cases hk)
  have HN:=a_ hN
  have H4:=a_ h4
  have HA:=a_ hall
  clear hN h4 hall
  go_loopw [4] (fun i wr=>∃ (k:Nat) (Z:List (Pf × Pv)),k<=N/\i=.int .i64 k/\Z.map (·.1)=(Z0.map (·.1)).take k/\wr.ownsRow w.heap.size 138 5 (.slice (some ⟨w.heap.size,0,none⟩) N N) N (prt (Z.map (fun q=>pfC q.1 q.2)) pfCZ N).flatten/\Parts (fun a b w q=>OwnPf a b w q.1 q.2) w.heap.size wr.heap.size (some w.heap.size) wr Z/\Below w.heap.size w wr)
   (fun i _=>N - (intOf i).toNat)
  case atStart =>
   refine ⟨0,[],Nat.zero_le _,rfl,rfl,?_,Parts.nil _ _ _ _ _,hb1⟩
   rw [List.map_nil,cv_]
   have e:=w_ (Value.agg #[.int .i64 0,.slice none 0 0,.int .i64 0,.int .i64 0,.slice none 0 0]).cells 5 N rfl (by omega)
   rw [e] at hown
   exact hown
  case round =>
   obtain ⟨k,Z,hk,rfl,hZ,ho,hpt,hb⟩:=hrel
   clear hown hgrow hb1
   have hZl:(Z.map (fun q=>pfC q.1 q.2)).length=k:=by have:=congrArg List.length hZ;simp at this;simp;have:=HN.out;omega
   by_cases hlt:k < N
   ·have hk0:k < Z0.length:=by rw [HN.out];exact hlt
    have hrg:=o_ (H4.out k hk0).1 hb h3
    have HT:=a_ (gO_ Z0[k].1 Z0[k].2 wr ((H4.out k hk0).2.below hb (nr_ _)) (HA.out _ (List.mem_map.2 ⟨_,List.getElem_mem hk0,rfl⟩)))
    have hli:(k:Int) < (N:Int):=by omega
    have psz:=fk_ 5 (Z.map (fun q=>pfC q.1 q.2)) pfCZ N (cf_ gh_ Z) rfl
    have plen:=ci_ (Z.map (fun q=>pfC q.1 q.2)) pfCZ N (by omega)
    have Hput:Hid (∀ u':Pv,setAll (prt (Z.map (fun q=>pfC q.1 q.2)) pfCZ N).flatten (k * 5) (pfC Z0[k].1 u')=(prt ((Z ++ [(Z0[k].1,u')]).map (fun q=>pfC q.1 q.2)) pfCZ N).flatten):=a_ (fun u'=>by
     rw [aq_ 5 (pfC Z0[k].1 u') _ k (by rw [plen];exact hlt) psz rfl,cH_ _ _ _ _ k hZl.symm hlt,List.map_append]
     rfl)
    have HZ2:Hid (∀ u':Pv,(Z ++ [(Z0[k].1,u')]).map (·.1)=(Z0.map (·.1)).take (k+1)):=a_ (fun u'=>by rw [List.map_append,hZ,List.take_succ_eq_append_getElem (by simpa using hk0)];simp)
    have Hln:Hid (k * 5+5<=(prt (Z.map (fun q=>pfC q.1 q.2)) pfCZ N).flatten.length):=a_ (by rw [s_ 5 _ psz,plen];omega)
    have Hpt:=a_ hpt
    have hgl:w.heap.size < wr.heap.size:=(World.ownsRow.lt ho w.heap.size rfl).2
    have Ho:=a_ ho
    have hil:(Tryz.prog.info? 132).map (·.size)=some (pfC Z0[k].1 Z0[k].2).length:=Tryz.infoWPf
    rw [show pfV Z0[k].1 Z0[k].2=.agg (pfC Z0[k].1 Z0[k].2).toArray from rfl] at HT
    have Hil:=a_ hil
    have Hrg:=a_ hrg
    clear hpt psz plen hZl hZ ho hrg hil
    generalize pfC Z0[k].1 Z0[k].2=cs at HT Hil Hrg
    generalize Z0[k].1=p at HT Hput HZ2
    go_wp2_with (first
     | (refine wpList_load_mid rfl 132 _ rfl b (off+k * 5) rfl cs _ Hrg.out Tryz.underlying132 rfl Hil.out ?_)
     | fail)
    refine HT.out.mono ?_
    rintro e w2 ⟨u',rfl,ho',hb2⟩
    have hB2:=hb.trans (hb2.mono hb.size)
    have HZ3:=a_ (HZ2.out u')
    have ho2:=j_ Ho.out hb2 (nr_ _)
    have Hth:=a_ (show w2.there w.heap.size (k * 5) (pfC p u').toArray.size from hC_ ho2 Hln.out)
    have HR:=a_ (cz_ (pfC p u') w2 (k * 5) _ ho2)
    rw [Hput.out] at HR
    have HF:=a_ (hB2.trans (e_ (nr_ _) (pfC p u') w2 (k * 5)))
    have s2:=hb2.size
    have HP:=a_ (show Parts (fun a b w q=>OwnPf a b w q.1 q.2) w.heap.size (w2.setCells w.heap.size (k * 5) (pfC p u')).heap.size (some w.heap.size) (w2.setCells w.heap.size (k * 5) (pfC p u')) (Z ++ [(p,u')]) from by
     rw [P_]
     refine Parts.turn ?_ (fun a b q h1 h2 h3 hq=>hq.kept (Kept.setCs w2 _ _ (by have:=h3 _ rfl;omega)))
     exact (Hpt.out.turn (fun a b q h1 h2 _ hq=>hq.kept (Kept.of_below hb2 (nr_ _)))).snoc (p,u') (nr_ _) (by omega) s2 (fun g e=>by cases e;omega) ho')
    have H1:Hid ((pfC p u').toArray.all (·.oneCell')=true):=a_ (by rw [List.all_toArray];exact bX_ ho'.rd)
    have Hi2:Hid ((Tryz.prog.info? 138).map (·.size)=some (pfC p u').toArray.size):=a_ Tryz.infoPf
    rw [show pfV p u'=.agg (pfC p u').toArray from rfl]
    clear hb2 hB2 ho' ho2 s2 HZ2 Hput HT
    generalize pfC p u'=ds at Hth HR HF HP H1 Hi2
    go_wp2_with (first
     | (refine wpList_store_mid rfl 138 _ _ rfl w.heap.size (k * 5) ds.toArray rfl rfl Hth.out Hi2.out H1.out ?_)
     | fail)
    go_roundw
    case rel=>exact ⟨k+1,_,by omega,by go_num,HZ3.out,HR.out,HP.out,HF.out⟩
    case measure=>simp [intOf];omega
   ·have e:k=N:=by omega
    subst e
    rw [dz_ _ _ _ hZl] at ho
    have hZe:Z.map (·.1)=Z0.map (·.1):=by rw [hZ,List.take_of_length_le (by simp;have:=HN.out;omega)]
    have hZn:Z.length=k:=by simpa using hZl
    go_wp2
    go_ret
    subst hZn
    exact ⟨_,rfl,⟨Z,hZe,ho,af_ ho,hpt.no (fun g e=>by cases e;exact .inr (.inr rfl))⟩,hb⟩
theorem hu_ (r k:Int) (s:ByteArray) (w:World):Calls Tryz.prog 95 #[.agg #[.int .i64 r,.int .i64 k,.string s]] w fun e w'=>e=.returned (.agg #[.int .i64 r,.int .i64 k,.string s])/\Below w.heap.size w w':=by
 go_enter Tryz.func95,Tryz.ntmps95
 go_wp2
 refine bodyPost_ret (v:=.agg #[.int .i64 r,.int .i64 k,.string s]) (by simp [results,Tryz.f95,go_sem]) rfl ?_
 exact ⟨rfl,((((br_ _ w).alloc (nr_ _) _).alloc (by simp) _).alloc (by simp;omega) _)⟩
theorem hZ_ (r k:Int) (s:ByteArray) (w:World):Calls Tryz.prog 96 #[.agg #[.int .i64 r,.int .i64 k,.string s]] w fun e w'=>e=.returned (.agg #[.int .i64 r,.int .i64 k,.string s])/\Below w.heap.size w w':=by
 go_enter Tryz.func96,Tryz.ntmps96
 go_wp2
 refine bodyPost_ret (v:=.agg #[.int .i64 r,.int .i64 k,.string s]) (by simp [results,Tryz.f96,go_sem]) rfl ?_
 exact ⟨rfl,((((br_ _ w).alloc (nr_ _) _).alloc (by simp) _).alloc (by simp;omega) _)⟩
theorem aL_ {α:Type} (L:List (List α)) (i:Nat) (a b c:α) (hi:i < L.length) (h:∀ x ∈ L,x.length=3):((L.flatten.set (i * 3) a).set (i * 3+1) b).set (i * 3+2) c=(L.set i [a,b,c]).flatten:=by
 have e0:=Y_ 3 a L i 0 hi h (by omega)
 rw [Nat.add_zero] at e0
 have hL:∀ x ∈ L.set i (L[i].set 0 a),x.length=3:=fun x hx=>by
  rcases List.mem_or_eq_of_mem_set hx with h' | rfl
  ·exact h x h'
  ·simpa using h L[i] (List.getElem_mem hi)
 have hL2:∀ x ∈ (L.set i (L[i].set 0 a)).set i (((L.set i (L[i].set 0 a))[i]'(by simpa using hi)).set 1 b),x.length=3:=fun x hx=>by
  rcases List.mem_or_eq_of_mem_set hx with h' | rfl
  ·exact hL x h'
  ·simpa using h L[i] (List.getElem_mem hi)
 rw [e0,Y_ 3 b _ i 1 (by simpa using hi) hL (by omega),Y_ 3 c _ i 2 (by simpa using hi) hL2 (by omega)]
 have hl:=h L[i] (List.getElem_mem hi)
 congr 1
 rw [List.set_set,List.set_set]
 congr 1
 simp only [List.getElem_set_self]
 match hx:L[i],hl with
 | [x,y,z],_=>rfl
theorem trC_sz (p:Tr):(trC p).length=3:=rfl
theorem as_ (l:List Tr) (k:Nat):∀ x ∈ part trC [Value.int .i64 0,Value.int .i64 0,Value.string { data:=#[] }] l k,x.length=3:=cb_ 3 _ _ _ _ trC_sz rfl
theorem Tryz.infoTVote:(Tryz.prog.info? 156).map (fun i=>(i.zero,i.size,i.bytes))=some (some (.agg #[.int .i64 0,.int .i64 0,.string { data:=#[] }]),3,32):=by kernel_rfl
theorem gE_ (v:Value) (l:List Tr) (w:World) (hr:RdR w v l) (hl:l.length<=4000000) :
  Calls Tryz.prog 31 #[v] w fun e w'=>∃ v',e=.returned v'/\OwnR 156 w.heap.size w' v' l/\Below w.heap.size w w':=by
 obtain ⟨i0,hi,hz0,hz1,hz2⟩:=info_parts Tryz.infoTVote
 rcases hr with ⟨a,cap,rfl,rfl,-⟩ | ⟨b,off,cap,h0,rfl,h1,h2,h3,h4⟩
 ·go_enter Tryz.func31,Tryz.ntmps31
  go_wp2_with (refine wpList_make_full _ rfl _ _ 50 rfl w.heap.size 156 i0 (.agg #[.int .i64 0,.int .i64 0,.string { data:=#[] }]) 3 Tryz.underlying50 hi hz0 hz1 .i64 .i64 _ _ 0 rfl rfl rfl rfl (by omega) (by unfold maxLen;omega) (nr_ _) ?_;intro w1 hown hgrow)
  have hb1:Below w.heap.size w w1:=(br_ _ _).grown hgrow (nr_ _) (by intro k hk;cases hk)
  refine wp_loop_rounds 1 ?_
  rw [rounds_succ]
  go_wp2
  go_ret
  have ho':OwnR 156 w.heap.size w1 (.slice (some ⟨w.heap.size,0,none⟩) 0 0) []:=by
   have e:=w_ (Value.agg #[.int .i64 0,.int .i64 0,.string { data:=#[] }]).cells 3 0 rfl (by omega)
   rw [e] at hown
   exact hown
  exact ⟨_,rfl,ho',hb1⟩
 ·go_enter Tryz.func31,Tryz.ntmps31
  go_wp2_with (refine wpList_make_full _ rfl _ _ 50 rfl w.heap.size 156 i0 (.agg #[.int .i64 0,.int .i64 0,.string { data:=#[] }]) 3 Tryz.underlying50 hi hz0 hz1 .i64 .i64 _ _ l.length rfl rfl rfl rfl (by rw [hz2];omega) (by unfold maxLen;omega) (nr_ _) ?_;intro w1 hown hgrow)
  have hb1:Below w.heap.size w w1:=(br_ _ _).grown hgrow (nr_ _) (by intro k hk;cases hk)
  go_loopw [4] (fun i wr=>∃ k:Nat,k<=l.length/\i=.int .i64 k/\wr.ownsRow w.heap.size 156 3 (.slice (some ⟨w.heap.size,0,none⟩) l.length l.length) l.length (part trC [Value.int .i64 0,Value.int .i64 0,Value.string { data:=#[] }] l k).flatten/\Below w.heap.size w wr)
   (fun i _=>l.length - (intOf i).toNat)
  case atStart =>
   refine ⟨0,Nat.zero_le _,rfl,?_,hb1⟩
   rw [av_]
   have e:=w_ (Value.agg #[.int .i64 0,.int .i64 0,.string { data:=#[] }]).cells 3 l.length rfl (by omega)
   rw [e] at hown
   exact hown
  case round =>
   obtain ⟨k,hk,rfl,ho,hb⟩:=hrel
   clear hown hgrow hb1
   by_cases hlt:k < l.length
   ·obtain ⟨d1,d2,d3⟩:=h4 k hlt
    have hc1:wr.cell? ⟨b,off+k * 3,none⟩=some (.int .i64 l[k].1):=(hb.cell (p:=⟨b,off+k * 3,none⟩) h3).trans d1
    have hc2:wr.cell? ⟨b,off+k * 3+1,none⟩=some (.int .i64 l[k].2.1):=(hb.cell (p:=⟨b,off+k * 3+1,none⟩) h3).trans d2
    have hc3:wr.cell? ⟨b,off+k * 3+2,none⟩=some (.string l[k].2.2):=(hb.cell (p:=⟨b,off+k * 3+2,none⟩) h3).trans d3
    have hli:(k:Int) < (l.length:Int):=by omega
    have Hput:=a_ (aL_ (part trC [Value.int .i64 0,Value.int .i64 0,Value.string { data:=#[] }] l k) k (.int .i64 l[k].1) (.int .i64 l[k].2.1) (.string l[k].2.2) (by rw [y_ _ _ _ _ hk];exact hlt) (as_ l k))
    have Hnext:=a_ (au_ trC [Value.int .i64 0,Value.int .i64 0,Value.string { data:=#[] }] l k hlt)
    have Hz0:=a_ (i_ 3 (part trC [Value.int .i64 0,Value.int .i64 0,Value.string { data:=#[] }] l k) k 0 (by rw [y_ _ _ _ _ hk];exact hlt) (as_ l k) (by omega))
    have Hz1:=a_ (i_ 3 (part trC [Value.int .i64 0,Value.int .i64 0,Value.string { data:=#[] }] l k) k 1 (by rw [y_ _ _ _ _ hk];exact hlt) (as_ l k) (by omega))
    have Hz2:=a_ (i_ 3 (part trC [Value.int .i64 0,Value.int .i64 0,Value.string { data:=#[] }] l k) k 2 (by rw [y_ _ _ _ _ hk];exact hlt) (as_ l k) (by omega))
    rw [aW_ _ _ _ _ hlt] at Hz0 Hz1 Hz2
    have Hvl:Hid (trC l[k]=[.int .i64 l[k].1,.int .i64 l[k].2.1,.string l[k].2.2]):=a_ rfl
    have hlb:w.heap.size < wr.heap.size:=((World.ownsRow.lt ho w.heap.size rfl)).2
    clear d1 d2 d3 h4
    generalize l[k].1=x at hc1 Hput Hvl
    generalize l[k].2.1=y at hc2 Hput Hvl
    generalize l[k].2.2=z at hc3 Hput Hvl
    go_wp2_with (go_at_call 95;refine (hu_ _ _ _ _).mono ?_;rintro e w2 ⟨rfl,hb2⟩;have ho2:=j_ ho hb2 (nr_ _);have q0:=ho2.cellAt (k * 3) (by omega);have q1:=ho2.cellAt (k * 3+1) (by omega);have q2:=ho2.cellAt (k * 3+2) (by omega);have f0:=ho2.frozenAt (k * 3);have f1:=ho2.frozenAt (k * 3+1);have f2:=ho2.frozenAt (k * 3+2);rw [<- Nat.add_zero (k * 3),Hz0.out] at q0;rw [Hz1.out] at q1;rw [Hz2.out] at q2;rw [Nat.add_zero] at q0;simp only [gz_,gs_] at q0 q1 q2)
    go_roundw
    case rel =>
     refine ⟨k+1,by omega,by go_num,?_,(((hb.trans (hb2.mono hb.size)).setCell (p:=⟨w.heap.size,k * 3,none⟩) (nr_ _) _).setCell (p:=⟨w.heap.size,k * 3+1,none⟩) (nr_ _) _).setCell (p:=⟨w.heap.size,k * 3+2,none⟩) (nr_ _) _⟩
     have s1:=(ho2.stored (k * 3) (.int .i64 x)).1
     have s2:=(s1.stored (k * 3+1) (.int .i64 y)).1
     have s3:=(s2.stored (k * 3+2) (.string z)).1
     rw [Hput.out,<- Hvl.out,Hnext.out] at s3
     exact s3
    case measure=>simp [intOf];omega
   ·have e:k=l.length:=by omega
    subst e
    rw [aF_] at ho
    go_wp2
    go_ret
    exact ⟨_,rfl,ho,hb⟩
theorem Tryz.infoTGone:(Tryz.prog.info? 158).map (fun i=>(i.zero,i.size,i.bytes))=some (some (.agg #[.int .i64 0,.int .i64 0,.string { data:=#[] }]),3,32):=by kernel_rfl
theorem gw_ (v:Value) (l:List Tr) (w:World) (hr:RdR w v l) (hl:l.length<=4000000) :
  Calls Tryz.prog 32 #[v] w fun e w'=>∃ v',e=.returned v'/\OwnR 158 w.heap.size w' v' l/\Below w.heap.size w w':=by
 obtain ⟨i0,hi,hz0,hz1,hz2⟩:=info_parts Tryz.infoTGone
 rcases hr with ⟨a,cap,rfl,rfl,-⟩ | ⟨b,off,cap,h0,rfl,h1,h2,h3,h4⟩
 ·go_enter Tryz.func32,Tryz.ntmps32
  go_wp2_with (refine wpList_make_full _ rfl _ _ 51 rfl w.heap.size 158 i0 (.agg #[.int .i64 0,.int .i64 0,.string { data:=#[] }]) 3 Tryz.underlying51 hi hz0 hz1 .i64 .i64 _ _ 0 rfl rfl rfl rfl (by omega) (by unfold maxLen;omega) (nr_ _) ?_;intro w1 hown hgrow)
  have hb1:Below w.heap.size w w1:=(br_ _ _).grown hgrow (nr_ _) (by intro k hk;cases hk)
  refine wp_loop_rounds 1 ?_
  rw [rounds_succ]
  go_wp2
  go_ret
  have ho':OwnR 158 w.heap.size w1 (.slice (some ⟨w.heap.size,0,none⟩) 0 0) []:=by
   have e:=w_ (Value.agg #[.int .i64 0,.int .i64 0,.string { data:=#[] }]).cells 3 0 rfl (by omega)
   rw [e] at hown
   exact hown
  exact ⟨_,rfl,ho',hb1⟩
 ·go_enter Tryz.func32,Tryz.ntmps32
  go_wp2_with (refine wpList_make_full _ rfl _ _ 51 rfl w.heap.size 158 i0 (.agg #[.int .i64 0,.int .i64 0,.string { data:=#[] }]) 3 Tryz.underlying51 hi hz0 hz1 .i64 .i64 _ _ l.length rfl rfl rfl rfl (by rw [hz2];omega) (by unfold maxLen;omega) (nr_ _) ?_;intro w1 hown hgrow)
  have hb1:Below w.heap.size w w1:=(br_ _ _).grown hgrow (nr_ _) (by intro k hk;cases hk)
  go_loopw [4] (fun i wr=>∃ k:Nat,k<=l.length/\i=.int .i64 k/\wr.ownsRow w.heap.size 158 3 (.slice (some ⟨w.heap.size,0,none⟩) l.length l.length) l.length (part trC [Value.int .i64 0,Value.int .i64 0,Value.string { data:=#[] }] l k).flatten/\Below w.heap.size w wr)
   (fun i _=>l.length - (intOf i).toNat)
  case atStart =>
   refine ⟨0,Nat.zero_le _,rfl,?_,hb1⟩
   rw [av_]
   have e:=w_ (Value.agg #[.int .i64 0,.int .i64 0,.string { data:=#[] }]).cells 3 l.length rfl (by omega)
   rw [e] at hown
   exact hown
  case round =>
   obtain ⟨k,hk,rfl,ho,hb⟩:=hrel
   clear hown hgrow hb1
   by_cases hlt:k < l.length
   ·obtain ⟨d1,d2,d3⟩:=h4 k hlt
    have hc1:wr.cell? ⟨b,off+k * 3,none⟩=some (.int .i64 l[k].1):=(hb.cell (p:=⟨b,off+k * 3,none⟩) h3).trans d1
    have hc2:wr.cell? ⟨b,off+k * 3+1,none⟩=some (.int .i64 l[k].2.1):=(hb.cell (p:=⟨b,off+k * 3+1,none⟩) h3).trans d2
    have hc3:wr.cell? ⟨b,off+k * 3+2,none⟩=some (.string l[k].2.2):=(hb.cell (p:=⟨b,off+k * 3+2,none⟩) h3).trans d3
    have hli:(k:Int) < (l.length:Int):=by omega
    have Hput:=a_ (aL_ (part trC [Value.int .i64 0,Value.int .i64 0,Value.string { data:=#[] }] l k) k (.int .i64 l[k].1) (.int .i64 l[k].2.1) (.string l[k].2.2) (by rw [y_ _ _ _ _ hk];exact hlt) (as_ l k))
    have Hnext:=a_ (au_ trC [Value.int .i64 0,Value.int .i64 0,Value.string { data:=#[] }] l k hlt)
    have Hz0:=a_ (i_ 3 (part trC [Value.int .i64 0,Value.int .i64 0,Value.string { data:=#[] }] l k) k 0 (by rw [y_ _ _ _ _ hk];exact hlt) (as_ l k) (by omega))
    have Hz1:=a_ (i_ 3 (part trC [Value.int .i64 0,Value.int .i64 0,Value.string { data:=#[] }] l k) k 1 (by rw [y_ _ _ _ _ hk];exact hlt) (as_ l k) (by omega))
    have Hz2:=a_ (i_ 3 (part trC [Value.int .i64 0,Value.int .i64 0,Value.string { data:=#[] }] l k) k 2 (by rw [y_ _ _ _ _ hk];exact hlt) (as_ l k) (by omega))
    rw [aW_ _ _ _ _ hlt] at Hz0 Hz1 Hz2
    have Hvl:Hid (trC l[k]=[.int .i64 l[k].1,.int .i64 l[k].2.1,.string l[k].2.2]):=a_ rfl
    have hlb:w.heap.size < wr.heap.size:=((World.ownsRow.lt ho w.heap.size rfl)).2
    clear d1 d2 d3 h4
    generalize l[k].1=x at hc1 Hput Hvl
    generalize l[k].2.1=y at hc2 Hput Hvl
    generalize l[k].2.2=z at hc3 Hput Hvl
    go_wp2_with (go_at_call 96;refine (hZ_ _ _ _ _).mono ?_;rintro e w2 ⟨rfl,hb2⟩;have ho2:=j_ ho hb2 (nr_ _);have q0:=ho2.cellAt (k * 3) (by omega);have q1:=ho2.cellAt (k * 3+1) (by omega);have q2:=ho2.cellAt (k * 3+2) (by omega);have f0:=ho2.frozenAt (k * 3);have f1:=ho2.frozenAt (k * 3+1);have f2:=ho2.frozenAt (k * 3+2);rw [<- Nat.add_zero (k * 3),Hz0.out] at q0;rw [Hz1.out] at q1;rw [Hz2.out] at q2;rw [Nat.add_zero] at q0;simp only [gz_,gs_] at q0 q1 q2)
    go_roundw
    case rel =>
     refine ⟨k+1,by omega,by go_num,?_,(((hb.trans (hb2.mono hb.size)).setCell (p:=⟨w.heap.size,k * 3,none⟩) (nr_ _) _).setCell (p:=⟨w.heap.size,k * 3+1,none⟩) (nr_ _) _).setCell (p:=⟨w.heap.size,k * 3+2,none⟩) (nr_ _) _⟩
     have s1:=(ho2.stored (k * 3) (.int .i64 x)).1
     have s2:=(s1.stored (k * 3+1) (.int .i64 y)).1
     have s3:=(s2.stored (k * 3+2) (.string z)).1
     rw [Hput.out,<- Hvl.out,Hnext.out] at s3
     exact s3
    case measure=>simp [intOf];omega
   ·have e:k=l.length:=by omega
    subst e
    rw [aF_] at ho
    go_wp2
    go_ret
    exact ⟨_,rfl,ho,hb⟩
open Classical in
theorem gC_ (v1 v2:Value) (l1 l2:List Ac) (w:World) (hr1:RdA w v1 l1) (hr2:RdA w v2 l2) (hl1:l1.length<=4000000) (hl2:l2.length<=4000000) (ha1:∀ a ∈ l1,a.2.2.2.2.length<=4000000) (ha2:∀ a ∈ l2,a.2.2.2.2.length<=4000000) :
  Calls Tryz.prog 108 #[v1,v2] w fun e w'=>e=.returned (.bool (decide (l1=l2)))/\Below w.heap.size w w':=by
 by_cases hne:l1.length=l2.length
 ·rcases hr1 with ⟨a,cap,rfl,rfl,-⟩ | ⟨b,off,cap,h0,rfl,h1,h2,h3,h4⟩
  ·have e2:l2=[]:=List.length_eq_zero_iff.1 (by simpa using hne.symm)
   subst e2
   obtain ⟨a2,cap2,rfl⟩:=hr2.shape
   clear hr2
   go_enter Tryz.func108,Tryz.ntmps108
   go_wp2
   refine wp_loop_rounds 1 ?_
   rw [rounds_succ]
   go_wp2
   go_ret
   exact ⟨rfl,br_ _ _⟩
  ·rcases hr2 with ⟨a2,cap2,rfl,rfl,-⟩ | ⟨b2,off2,cap2,g0,rfl,g1,g2,g3,g4⟩
   ·exact absurd (List.length_eq_zero_iff.1 (by simpa using hne)) h0
   ·have Hne:=a_ hne
    have hlen:((l1.length:Int) != (l2.length:Int))=false:=by rw [hne];simp
    have hle:l1.length<=l2.length:=by omega
    have hge:l2.length<=l1.length:=by omega
    have H4:=a_ h4
    have G4:=a_ g4
    have A1:=a_ ha1
    have A2:=a_ ha2
    clear hne h4 g4 ha1 ha2
    go_enter Tryz.func108,Tryz.ntmps108
    go_wp2
    go_loopw [5] (fun i wr=>∃ k:Nat,k<=l1.length/\i=.int .i64 k/\l1.take k=l2.take k/\Below w.heap.size w wr) (fun i _=>l1.length - (intOf i).toNat)
    case atStart=>exact ⟨0,Nat.zero_le _,rfl,rfl,br_ _ _⟩
    case round =>
     obtain ⟨k,hk,rfl,ht,hs⟩:=hrel
     have Ht:=a_ ht
     clear ht
     by_cases hlt:k < l1.length
     ·have hlt2:k < l2.length:=by omega
      obtain ⟨la,ca,ra⟩:=H4.out k hlt
      obtain ⟨lb,cb',rb⟩:=G4.out k hlt2
      obtain ⟨c0,c1,c2,c3,c4⟩:=ca.below hs.drew h3
      obtain ⟨d0,d1,d2,d3,d4⟩:=cb'.below hs.drew g3
      have hli:(k:Int) < (l1.length:Int):=by omega
      have hli2:(k:Int) < (l2.length:Int):=by omega
      have HE:=a_ (hJ_ l1[k] l2[k] la lb wr.drew (ra.below hs.drew (nr_ _)) (rb.below hs.drew (nr_ _)) (A1.out _ (List.getElem_mem _)) (A2.out _ (List.getElem_mem _)))
      have Hnx:Hid (l1[k]=l2[k]->l1.take (k+1)=l2.take (k+1)):=a_ (fun he=>L_ hlt hlt2 Ht.out he)
      have Hno:Hid (l1[k] ≠ l2[k]->decide (l1=l2)=false):=a_ (fun he=>by rw [decide_eq_false];intro e;subst e;exact he rfl)
      have sa:=ra.shape
      have sb:=rb.shape
      clear ra rb ca cb'
      generalize hp:l1[k]=p at c0 c1 c2 c3 HE Hnx Hno sa
      generalize hq:l2[k]=q at d0 d1 d2 d3 HE Hnx Hno sb
      clear hp hq
      have hS1:wr.drew.cell? ⟨b,off+k * 5,none⟩=some (.string p.1)/\wr.drew.cell? ⟨b,off+k * 5+1,none⟩=some (.int .i64 p.2.1)/\wr.drew.cell? ⟨b,off+k * 5+2,none⟩=some (.int .i64 p.2.2.1)/\wr.drew.cell? ⟨b,off+k * 5+3,none⟩=some (.int .i64 p.2.2.2.1)/\wr.drew.cell? ⟨b,off+k * 5+4,none⟩=some la/\wr.drew.cell? ⟨b2,off2+k * 5,none⟩=some (.string q.1)/\wr.drew.cell? ⟨b2,off2+k * 5+1,none⟩=some (.int .i64 q.2.1)/\wr.drew.cell? ⟨b2,off2+k * 5+2,none⟩=some (.int .i64 q.2.2.1)/\wr.drew.cell? ⟨b2,off2+k * 5+3,none⟩=some (.int .i64 q.2.2.2.1)/\wr.drew.cell? ⟨b2,off2+k * 5+4,none⟩=some lb:=⟨c0,c1,c2,c3,c4,d0,d1,d2,d3,d4⟩
      obtain ⟨xa,ya,rfl⟩:=sa
      obtain ⟨xb,yb,rfl⟩:=sb
      unfold acV at HE
      clear c0 c1 c2 c3 c4 d0 d1 d2 d3 d4
      by_cases he:p=q
      ·rw [decide_eq_true he] at HE
       have Hnx:=a_ (Hnx.out he)
       clear he Hno
       go_wp2
       go_region_held_law (fun w'=>w'.cell? ⟨b,off+k * 5,none⟩=some (.string p.1)/\w'.cell? ⟨b,off+k * 5+1,none⟩=some (.int .i64 p.2.1)/\w'.cell? ⟨b,off+k * 5+2,none⟩=some (.int .i64 p.2.2.1)/\w'.cell? ⟨b,off+k * 5+3,none⟩=some (.int .i64 p.2.2.2.1)/\w'.cell? ⟨b,off+k * 5+4,none⟩=some (.slice xa p.2.2.2.2.length ya)/\w'.cell? ⟨b2,off2+k * 5,none⟩=some (.string q.1)/\w'.cell? ⟨b2,off2+k * 5+1,none⟩=some (.int .i64 q.2.1)/\w'.cell? ⟨b2,off2+k * 5+2,none⟩=some (.int .i64 q.2.2.1)/\w'.cell? ⟨b2,off2+k * 5+3,none⟩=some (.int .i64 q.2.2.2.1)/\w'.cell? ⟨b2,off2+k * 5+4,none⟩=some (.slice xb q.2.2.2.2.length yb)) (first | exact hS1 | exact hS2) ((go_at_call 143;refine HE.out.mono ?_;rintro e w2 ⟨rfl,hb2⟩;have hz:=hs.size;have hS2:w2.cell? ⟨b,off+k * 5,none⟩=some (.string p.1)/\w2.cell? ⟨b,off+k * 5+1,none⟩=some (.int .i64 p.2.1)/\w2.cell? ⟨b,off+k * 5+2,none⟩=some (.int .i64 p.2.2.1)/\w2.cell? ⟨b,off+k * 5+3,none⟩=some (.int .i64 p.2.2.2.1)/\w2.cell? ⟨b,off+k * 5+4,none⟩=some (.slice xa p.2.2.2.2.length ya)/\w2.cell? ⟨b2,off2+k * 5,none⟩=some (.string q.1)/\w2.cell? ⟨b2,off2+k * 5+1,none⟩=some (.int .i64 q.2.1)/\w2.cell? ⟨b2,off2+k * 5+2,none⟩=some (.int .i64 q.2.2.1)/\w2.cell? ⟨b2,off2+k * 5+3,none⟩=some (.int .i64 q.2.2.2.1)/\w2.cell? ⟨b2,off2+k * 5+4,none⟩=some (.slice xb q.2.2.2.2.length yb):=⟨(hb2.cell (p:=⟨b,off+k * 5,none⟩) (Nat.lt_of_lt_of_le h3 hz)).trans hS1.1,(hb2.cell (p:=⟨b,off+k * 5+1,none⟩) (Nat.lt_of_lt_of_le h3 hz)).trans hS1.2.1,(hb2.cell (p:=⟨b,off+k * 5+2,none⟩) (Nat.lt_of_lt_of_le h3 hz)).trans hS1.2.2.1,(hb2.cell (p:=⟨b,off+k * 5+3,none⟩) (Nat.lt_of_lt_of_le h3 hz)).trans hS1.2.2.2.1,(hb2.cell (p:=⟨b,off+k * 5+4,none⟩) (Nat.lt_of_lt_of_le h3 hz)).trans hS1.2.2.2.2.1,(hb2.cell (p:=⟨b2,off2+k * 5,none⟩) (Nat.lt_of_lt_of_le g3 hz)).trans hS1.2.2.2.2.2.1,(hb2.cell (p:=⟨b2,off2+k * 5+1,none⟩) (Nat.lt_of_lt_of_le g3 hz)).trans hS1.2.2.2.2.2.2.1,(hb2.cell (p:=⟨b2,off2+k * 5+2,none⟩) (Nat.lt_of_lt_of_le g3 hz)).trans hS1.2.2.2.2.2.2.2.1,(hb2.cell (p:=⟨b2,off2+k * 5+3,none⟩) (Nat.lt_of_lt_of_le g3 hz)).trans hS1.2.2.2.2.2.2.2.2.1,(hb2.cell (p:=⟨b2,off2+k * 5+4,none⟩) (Nat.lt_of_lt_of_le g3 hz)).trans hS1.2.2.2.2.2.2.2.2.2⟩))
       go_wp2
       go_roundw
       case rel=>exact ⟨k+1,by omega,by go_num,Hnx.out,hs.drew.trans (hb2.mono hs.size)⟩
       case measure=>simp [intOf];omega
      ·rw [decide_eq_false he] at HE
       have Hno:=a_ (Hno.out he)
       clear he Hnx
       go_wp2
       go_region_held_law (fun w'=>w'.cell? ⟨b,off+k * 5,none⟩=some (.string p.1)/\w'.cell? ⟨b,off+k * 5+1,none⟩=some (.int .i64 p.2.1)/\w'.cell? ⟨b,off+k * 5+2,none⟩=some (.int .i64 p.2.2.1)/\w'.cell? ⟨b,off+k * 5+3,none⟩=some (.int .i64 p.2.2.2.1)/\w'.cell? ⟨b,off+k * 5+4,none⟩=some (.slice xa p.2.2.2.2.length ya)/\w'.cell? ⟨b2,off2+k * 5,none⟩=some (.string q.1)/\w'.cell? ⟨b2,off2+k * 5+1,none⟩=some (.int .i64 q.2.1)/\w'.cell? ⟨b2,off2+k * 5+2,none⟩=some (.int .i64 q.2.2.1)/\w'.cell? ⟨b2,off2+k * 5+3,none⟩=some (.int .i64 q.2.2.2.1)/\w'.cell? ⟨b2,off2+k * 5+4,none⟩=some (.slice xb q.2.2.2.2.length yb)) (first | exact hS1 | exact hS2) ((go_at_call 143;refine HE.out.mono ?_;rintro e w2 ⟨rfl,hb2⟩;have hz:=hs.size;have hS2:w2.cell? ⟨b,off+k * 5,none⟩=some (.string p.1)/\w2.cell? ⟨b,off+k * 5+1,none⟩=some (.int .i64 p.2.1)/\w2.cell? ⟨b,off+k * 5+2,none⟩=some (.int .i64 p.2.2.1)/\w2.cell? ⟨b,off+k * 5+3,none⟩=some (.int .i64 p.2.2.2.1)/\w2.cell? ⟨b,off+k * 5+4,none⟩=some (.slice xa p.2.2.2.2.length ya)/\w2.cell? ⟨b2,off2+k * 5,none⟩=some (.string q.1)/\w2.cell? ⟨b2,off2+k * 5+1,none⟩=some (.int .i64 q.2.1)/\w2.cell? ⟨b2,off2+k * 5+2,none⟩=some (.int .i64 q.2.2.1)/\w2.cell? ⟨b2,off2+k * 5+3,none⟩=some (.int .i64 q.2.2.2.1)/\w2.cell? ⟨b2,off2+k * 5+4,none⟩=some (.slice xb q.2.2.2.2.length yb):=⟨(hb2.cell (p:=⟨b,off+k * 5,none⟩) (Nat.lt_of_lt_of_le h3 hz)).trans hS1.1,(hb2.cell (p:=⟨b,off+k * 5+1,none⟩) (Nat.lt_of_lt_of_le h3 hz)).trans hS1.2.1,(hb2.cell (p:=⟨b,off+k * 5+2,none⟩) (Nat.lt_of_lt_of_le h3 hz)).trans hS1.2.2.1,(hb2.cell (p:=⟨b,off+k * 5+3,none⟩) (Nat.lt_of_lt_of_le h3 hz)).trans hS1.2.2.2.1,(hb2.cell (p:=⟨b,off+k * 5+4,none⟩) (Nat.lt_of_lt_of_le h3 hz)).trans hS1.2.2.2.2.1,(hb2.cell (p:=⟨b2,off2+k * 5,none⟩) (Nat.lt_of_lt_of_le g3 hz)).trans hS1.2.2.2.2.2.1,(hb2.cell (p:=⟨b2,off2+k * 5+1,none⟩) (Nat.lt_of_lt_of_le g3 hz)).trans hS1.2.2.2.2.2.2.1,(hb2.cell (p:=⟨b2,off2+k * 5+2,none⟩) (Nat.lt_of_lt_of_le g3 hz)).trans hS1.2.2.2.2.2.2.2.1,(hb2.cell (p:=⟨b2,off2+k * 5+3,none⟩) (Nat.lt_of_lt_of_le g3 hz)).trans hS1.2.2.2.2.2.2.2.2.1,(hb2.cell (p:=⟨b2,off2+k * 5+4,none⟩) (Nat.lt_of_lt_of_le g3 hz)).trans hS1.2.2.2.2.2.2.2.2.2⟩))
       go_wp2
       go_ret
       exact ⟨b_ Hno.out.symm,hs.drew.trans (hb2.mono hs.size)⟩
     ·have hf:Hid (decide (l1=l2)=true):=a_ (by
       rw [decide_eq_true]
       have:=Ht.out
       rwa [List.take_of_length_le (by omega),List.take_of_length_le (by omega)] at this)
      go_wp2
      go_ret
      exact ⟨b_ hf.out.symm,hs⟩
 ·obtain ⟨a,cap,rfl⟩:=hr1.shape
  obtain ⟨a2,cap2,rfl⟩:=hr2.shape
  clear hr1 hr2
  have hlen:((l1.length:Int) != (l2.length:Int))=true:=by rw [bne_iff_ne];omega
  have hf:Hid (decide (l1=l2)=false):=a_ (by rw [decide_eq_false];intro e;subst e;exact hne rfl)
  clear hne
  go_enter Tryz.func108,Tryz.ntmps108
  go_wp2
  go_ret
  exact ⟨b_ hf.out.symm,br_ _ _⟩
def wgA (a:Ac):Nat:=a.1.size+a.2.2.2.2.length
def totA (l:List Ac):Nat:=(l.map wgA).sum
theorem jp_ (l:List Ac) (k:Nat) (h:k < l.length):totA (l.take (k+1))=totA (l.take k)+wgA l[k]:=by
 unfold totA
 rw [List.take_succ_eq_append_getElem h,List.map_append,List.sum_append]
 simp only [List.map_cons,List.map_nil,List.sum_cons,List.sum_nil,Nat.add_zero]
theorem totA_at:∀ (l:List Ac) (a:Ac),a ∈ l->wgA a<=totA l
 | [],a,h=>by simp at h
 | b :: l,a,h=>by
  have e:totA (b :: l)=wgA b+totA l:=by simp [totA]
  rw [e]
  rcases List.mem_cons.1 h with rfl | h
  ·omega
  ·have:=totA_at l a h;omega
theorem jF_ (a:Ac) (r:Nat) (h:wgA a<=r):szAc a (r:Int)=((r - wgA a:Nat):Int):=by
 unfold wgA at h
 unfold szAc wgA
 rw [if_neg (by omega),if_neg (by omega)]
 omega
theorem kb_ (a:Ac) (r:Nat) (h:¬ wgA a<=r):szAc a (r:Int)=-1:=by
 unfold wgA at h
 unfold szAc
 by_cases h1:(r:Int) - a.1.size < 0
 ·rw [if_pos h1]
 ·rw [if_neg h1,if_pos (by omega)]
theorem gB_ (v:Value) (l:List Ac) (m:Nat) (w:World) (hr:RdA w v l) (hm:m<=100000000) (hl:l.length<=9223372036854775807) (hs:∀ a ∈ l,a.1.size<=9223372036854775807/\a.2.2.2.2.length<=9223372036854775807) :
  Calls Tryz.prog 70 #[v,.int .i64 (m:Int)] w fun e w'=>∃ r:Int,e=.returned (.int .i64 r)/\(0<=r->l.length+totA l<=m/\r<=(m:Int))/\Below w.heap.size w w':=by
 by_cases hn:m < l.length
 ·obtain ⟨a,cap,rfl⟩:=hr.shape
  clear hr hs
  go_enter Tryz.func70,Tryz.ntmps70
  go_wp2
  go_ret
  exact ⟨_,rfl,fun h=>by omega,br_ _ _⟩
 ·rcases hr with ⟨a,cap,rfl,rfl,-⟩ | ⟨b,off,cap,h0,rfl,h1,h2,h3,h4⟩
  ·go_enter Tryz.func70,Tryz.ntmps70
   go_wp2
   refine wp_loop_rounds 1 ?_
   rw [rounds_succ]
   go_wp2
   go_ret
   exact ⟨_,rfl,fun _=>⟨by simp [totA],by simp⟩,br_ _ _⟩
  ·have Hs:=a_ hs
   have H4:=a_ h4
   clear hs h4
   go_enter Tryz.func70,Tryz.ntmps70
   go_wp2
   go_loopw [1,5] (fun mv iv wr=>∃ k r:Nat,k<=l.length/\iv=.int .i64 (k:Int)/\mv=.int .i64 (r:Int)/\l.length+totA (l.take k)+r=m/\Below w.heap.size w wr) (fun _ iv _=>l.length - (intOf iv).toNat)
   case atStart=>exact ⟨0,m - l.length,Nat.zero_le _,rfl,by go_num,by simp [totA];omega,br_ _ _⟩
   case round =>
    obtain ⟨k,r,hk,rfl,rfl,hrem,hb⟩:=hrel
    have Hrem:=a_ hrem
    have hrm:r<=m:=by omega
    clear hrem
    by_cases hlt:k < l.length
    ·obtain ⟨lv,hat,hrl⟩:=H4.out k hlt
     obtain ⟨c0,c1,c2,c3,c4⟩:=hat.below hb h3
     have hsz:=Hs.out l[k] (List.getElem_mem hlt)
     have Hsn:=a_ (jp_ l k hlt)
     have HZ:=a_ (hU_ l[k] lv (r:Int) wr (hrl.below hb (nr_ _)) (by omega) (by omega) hsz.1 hsz.2)
     have hshape:=hrl.shape
     have hli:(k:Int) < (l.length:Int):=by omega
     by_cases hfit:wgA l[k]<=r
     ·rw [jF_ _ _ hfit] at HZ
      obtain ⟨q,hq⟩:∃ q,r - wgA l[k]=q:=⟨_,rfl⟩
      have Hq:Hid (wgA l[k]+q=r):=a_ (by omega)
      rw [hq] at HZ
      clear hfit hsz hrl hat hq
      generalize l[k]=ak at c0 c1 c2 c3 HZ hshape Hsn Hq
      obtain ⟨nm,fr,no,st,ls⟩:=ak
      obtain ⟨av,cv,rfl⟩:=hshape
      simp only [acV] at c0 c1 c2 c3 HZ
      go_wp2_with (go_at_call 121;refine HZ.out.mono ?_;rintro e w2 ⟨rfl,hb2⟩)
      go_roundw
      case rel=>exact ⟨k+1,q,by omega,by go_num,rfl,by rw [Hsn.out];have:=Hrem.out;have:=Hq.out;omega,hb.trans (hb2.mono hb.size)⟩
      case measure=>simp [intOf];omega
     ·rw [kb_ _ _ hfit] at HZ
      clear hfit hsz hrl hat
      generalize l[k]=ak at c0 c1 c2 c3 HZ hshape Hsn
      obtain ⟨nm,fr,no,st,ls⟩:=ak
      obtain ⟨av,cv,rfl⟩:=hshape
      simp only [acV] at c0 c1 c2 c3 HZ
      go_wp2_with (go_at_call 121;refine HZ.out.mono ?_;rintro e w2 ⟨rfl,hb2⟩)
      go_ret
      exact ⟨_,rfl,fun h=>by omega,hb.trans (hb2.mono hb.size)⟩
    ·have hf:Hid (l.length+totA l<=m/\(r:Int)<=(m:Int)):=a_ (by
      have h:=Hrem.out
      rw [List.take_of_length_le (by omega)] at h
      omega)
     go_wp2
     go_ret
     exact ⟨_,rfl,fun _=>hf.out,hb⟩
end Go.Proofs.YtamljhcmiphdgaaGreatDoor
