/- One vote, one leaving. -/
import Derived.Test.YtfdbedenlbikgaaZoNdMem
import Derived.Test.YtfdbedenlbikgaaZoTgs
set_option maxRecDepth 20000
set_option maxHeartbeats 8000000
namespace Go.Proofs.Ytfdbedenlbikgaa
open Go.RowKit
set_option linter.unusedVariables false
structure FewPf (p:Pf):Prop where
  nb:p.bs.length<=4000000
  fb:∀ b ∈ p.bs,FewK b
  nw:p.qw.length<=4000000
theorem Try.infoPf:(Try.prog.info? 174).map (·.size)=some 5:=by kernel_rfl
theorem res_toProof {X:World} {a:Act} {R:Ending->World->Prop} {F:List Value} (g:Nat) (h:X.rangeAt g 0 F) (h2:a.tmps[2]?.getD undef=.pointer (some ⟨g,0,none⟩)) (hs:(Try.prog.info? 174).map (·.size)=some F.length) (hd:a.defers=[]) (hR:R (.returned (.agg F.toArray)) X):bodyPost Try.prog Try.f88 R .ret a X:=by
  have hl:=run_loadVar_mid (P:=Try.prog) X g 0 174 F _ h Try.underlying174 rfl hs
  refine bodyPost_ret (v:=.agg F.toArray) ?_ hd hR
  simp [results,Try.f88,h2,asAddr,hl]
theorem toProof_any (p:Pf) (u:Pv) (w:World) (hr:RdPf w p u) (hf:FewPf p) :
    Calls Try.prog 88 #[pfV p u] w fun e w'=>∃ u',e=.returned (pfV p u')/\OwnPf w.heap.size w'.heap.size w' p u'/\Below w.heap.size w w':=by
  have hnb:=hf.nb
  have hfb:=hf.fb
  have hnw:=hf.nw
  clear hf
  obtain ⟨ep,bs,qr,qb,qw⟩:=p
  obtain ⟨yb,yw⟩:=u
  obtain ⟨hyb,hyw⟩:=hr
  simp only at *
  obtain ⟨adb,cpb,rfl⟩:=hyb.shape
  obtain ⟨adw,cpw,rfl⟩:=hyw.shape
  have E1:=hide (fun V (hV:Below w.heap.size w V)=>toBlockS_any (.slice adb bs.length cpb) bs V (hyb.below hV (Nat.le_refl _)) hnb hfb)
  have E2:=hide (fun V (hV:Below w.heap.size w V)=>toQc_any qr qb (.slice adw qw.length cpw) qw V (hyw.below hV (Nat.le_refl _)) hnw)
  clear hyb hyw
  clear hfb
  simp only [pfV,qcV] at *
  go_enter Try.func88,Try.ntmps88
  go_wp2_with fail
  obtain ⟨S0,hS0⟩:∃ x,((w.alloc (.cells #[.int .i64 ep,.slice adb bs.length cpb,.int .i64 qr,.int .i64 qb,.slice adw qw.length cpw] 167)).alloc (.cells #[.int .i64 0,.slice none 0 0,.int .i64 0,.int .i64 0,.slice none 0 0] 174)).alloc (.cells #[.int .i64 ep,.slice none 0 0,.int .i64 0,.int .i64 0,.slice none 0 0] 174)=x:=⟨_,rfl⟩
  rw [hS0]
  have C0:=hide (show Tg 167 174 [.int .i64 0,.slice none 0 0,.int .i64 0,.int .i64 0,.slice none 0 0] [.int .i64 ep,.slice adb bs.length cpb,.int .i64 qr,.int .i64 qb,.slice adw qw.length cpw] w S0 [.int .i64 ep,.slice none 0 0,.int .i64 0,.int .i64 0,.slice none 0 0] from by
    rw [<- hS0]
    exact ⟨(Blk.new w _ _).below (((Below.refl (w.heap.size+1) _).alloc (by simp) _).alloc (by simp) _) (by omega),(Blk.newR _ _ [.int .i64 0,.slice none 0 0,.int .i64 0,.int .i64 0,.slice none 0 0] _ (by simp)).below ((Below.refl (w.heap.size+2) _).alloc (by simp) _) (by omega),Blk.newR _ _ [.int .i64 ep,.slice none 0 0,.int .i64 0,.int .i64 0,.slice none 0 0] _ (by simp),(((Below.refl _ w).alloc (Nat.le_refl _) _).alloc (by simp) _).alloc (by simp;omega) _⟩)
  clear hS0
  refine (E1.out S0 C0.out.b).mono ?_
  rintro e w1 ⟨v1,rfl,o1,hb1⟩
  obtain ⟨bdb,bpb,rfl⟩:=o1.rd.shape
  have G1:=C0.out.call hb1
  have q1:=G1.o.cell 1
  have g1:=G1.o.frozen 1
  simp only [List.getElem?_cons_zero,List.getElem?_cons_succ] at q1
  obtain ⟨S1,hS1⟩:∃ x,(w1).setCell ⟨w.heap.size+2,1,none⟩ (.slice bdb bs.length bpb)=x:=⟨_,rfl⟩
  have C1:=hide (show Tg 167 174 [.int .i64 0,.slice none 0 0,.int .i64 0,.int .i64 0,.slice none 0 0] [.int .i64 ep,.slice adb bs.length cpb,.int .i64 qr,.int .i64 qb,.slice adw qw.length cpw] w S1 [.int .i64 ep,.slice bdb bs.length bpb,.int .i64 0,.int .i64 0,.slice none 0 0] from by rw [<- hS1];exact (G1.put 1 _))
  have P1:=hide (show Oth (fun g=>g=w.heap.size+2) S0 S1 from by rw [<- hS1];exact (tg_oth hb1 1 _))
  have N1:=hide (show w1.heap.size=S1.heap.size from by rw [<- hS1];simp)
  have Rb:=hide (show OwnKx S0.heap.size S1.heap.size S1 (.slice bdb bs.length bpb) bs from by rw [<- N1.out,<- hS1];exact ((OwnKs.kx o1)).kept (Kept.set _ 1 _ (.inl (by have:=C0.out.lt;omega))))
  clear G1 hb1 o1
  have p2:=C1.out.p.cell 2
  have p3:=C1.out.p.cell 3
  have p4:=C1.out.p.cell 4
  simp only [List.getElem?_cons_zero,List.getElem?_cons_succ] at p2 p3 p4
  go_wp2_with fail
  (try rw [hS1])
  clear p2 p3 p4 q1 g1  hS1
  refine (E2.out S1 C1.out.b).mono ?_
  rintro e w2 ⟨v2,rfl,o2,hb2⟩
  obtain ⟨bdw,bpw,rfl⟩:=o2.rd.shape
  have G2:=C1.out.call hb2
  have q2:=G2.o.cell 2
  have g2:=G2.o.frozen 2
  have q3:=G2.o.cell 3
  have g3:=G2.o.frozen 3
  have q4:=G2.o.cell 4
  have g4:=G2.o.frozen 4
  simp only [List.getElem?_cons_zero,List.getElem?_cons_succ] at q2 q3 q4
  obtain ⟨S2,hS2⟩:∃ x,(((w2).setCell ⟨w.heap.size+2,2,none⟩ (.int .i64 qr)).setCell ⟨w.heap.size+2,3,none⟩ (.int .i64 qb)).setCell ⟨w.heap.size+2,4,none⟩ (.slice bdw qw.length bpw)=x:=⟨_,rfl⟩
  have C2:=hide (show Tg 167 174 [.int .i64 0,.slice none 0 0,.int .i64 0,.int .i64 0,.slice none 0 0] [.int .i64 ep,.slice adb bs.length cpb,.int .i64 qr,.int .i64 qb,.slice adw qw.length cpw] w S2 [.int .i64 ep,.slice bdb bs.length bpb,.int .i64 qr,.int .i64 qb,.slice bdw qw.length bpw] from by rw [<- hS2];exact (((G2.put 2 _).put 3 _).put 4 _))
  have P2:=hide (show Oth (fun g=>g=w.heap.size+2) S1 S2 from by rw [<- hS2];exact (((tg_oth hb2 2 _).set (S:=fun g=>g=w.heap.size+2) rfl 3 _).set (S:=fun g=>g=w.heap.size+2) rfl 4 _))
  have N2:=hide (show w2.heap.size=S2.heap.size from by rw [<- hS2];simp)
  have Rw:=hide (show InS S1.heap.size S2.heap.size S2 (.slice bdw qw.length bpw) qw from by rw [<- N2.out,<- hS2];exact ((InS.of o2)).kept (((Kept.set _ 2 _ (.inl (by have:=C1.out.lt;omega))).trans (Kept.set _ 3 _ (.inl (by have:=C1.out.lt;omega)))).trans (Kept.set _ 4 _ (.inl (by have:=C1.out.lt;omega)))))
  clear G2 hb2 o2
  have hz0:=C0.out.lt
  obtain ⟨F,hF⟩:∃ x,([.int .i64 ep,.slice bdb bs.length bpb,.int .i64 qr,.int .i64 qb,.slice bdw qw.length bpw]:List Value)=x:=⟨_,rfl⟩
  have hFl:F.length=5:=by rw [<- hF];rfl
  have hF1:F.toArray.all (·.oneCell')=true:=by rw [List.all_toArray,<- hF];rfl
  have Hsz:=hide (show (Try.prog.info? 174).map (·.size)=some F.length from by rw [hFl];exact Try.infoPf)
  have Hld:=hide (show S2.rangeAt (w.heap.size+2) 0 F from by rw [<- hF];exact blk_range C2.out.o)
  have HRk:=hide (show Blk S2 (w.heap.size+1) 174 [.int .i64 0,.slice none 0 0,.int .i64 0,.int .i64 0,.slice none 0 0] from C2.out.r)
  have Hth:=hide (show S2.there (w.heap.size+1) 0 F.toArray.size from by rw [show F.toArray.size=5 from by simpa using hFl];exact HRk.out.there rfl)
  have HX:=hide (show Blk (S2.setCells (w.heap.size+1) 0 F) (w.heap.size+1) 174 F from by rw [<- hF];exact blk_all HRk.out (by rfl))
  have HB:=hide (C2.out.b.trans (putC_below (B:=w.heap.size) (show w.heap.size<=w.heap.size+1 by omega) F S2 0))
  have Y1:=(show S0.heap.size<=S1.heap.size from P1.out.size)
  have Y2:=(show S1.heap.size<=S2.heap.size from P2.out.size)
  have Fb:=hide (show OwnKx S0.heap.size S1.heap.size (S2.setCells (w.heap.size+1) 0 F) (.slice bdb bs.length bpb) bs from ((Rb.out.kept (Kept.of_oth P2.out (fun g a b e=>by have e9:g=w.heap.size+2:=e;omega))).kept (Kept.setCs _ 0 F (.inl (by omega)))))
  have Fw:=hide (show InS S1.heap.size S2.heap.size (S2.setCells (w.heap.size+1) 0 F) (.slice bdw qw.length bpw) qw from (Rw.out.kept (Kept.setCs _ 0 F (.inl (by omega)))))
  have FZ:=hide (show (S2.setCells (w.heap.size+1) 0 F).heap.size=S2.heap.size from size_sets _ F _ 0)
  have FY:=hide (show w.heap.size<=S0.heap.size from by omega)
  have W1:=hide Y1
  have W2:=hide Y2
  clear hz0 Y1 Y2 Rb Rw P1 C1 N1 P2 C2 N2 E1 E2 C0 HRk hFl
  go_wp2_with (first
    | (refine wpList_load_mid rfl 174 _ rfl (w.heap.size+2) 0 rfl F _ Hld.out Try.underlying174 rfl Hsz.out ?_)
    | (refine wpList_store_mid rfl 174 _ _ rfl (w.heap.size+1) 0 F.toArray rfl rfl Hth.out (by simpa using Hsz.out) hF1 ?_)
    | fail)
  (try rw [hS2])
  (try simp only [List.toList_toArray])
  refine res_toProof (F:=F) (w.heap.size+1) (blk_range HX.out) (by rfl) Hsz.out rfl ?_
  subst hF
  have fz:=FZ.out
  have fy:=FY.out
  have o1:=W1.out
  have o2:=W2.out
  refine ⟨⟨.slice bdb bs.length bpb,.slice bdw qw.length bpw⟩,rfl,⟨⟨S0.heap.size,S1.heap.size,S2.heap.size,by omega,by omega,by omega,by omega,Fb.out.wide (by omega) (by omega),Fw.out.wide (by omega) (by omega)⟩⟩,HB.out⟩
theorem pfC_one {w:World} {p:Pf} {u:Pv} (h:RdPf w p u):(pfC p u).all (·.oneCell')=true:=by
  obtain ⟨adb,cpb,eqb⟩:=h.kb.shape
  obtain ⟨adw,cpw,eqw⟩:=h.kw.shape
  simp [pfC,Value.oneCell',eqb,eqw]
theorem Try.infoRPf:(Try.prog.info? 174).map (fun i=>(i.zero,i.size,i.bytes))=some (some (.agg #[.int .i64 0,.slice none 0 0,.int .i64 0,.int .i64 0,.slice none 0 0]),5,72):=by kernel_rfl
theorem Try.infoWPf:(Try.prog.info? 167).map (·.size)=some 5:=by kernel_rfl
theorem toProofS_any (v:Value) (l:List Pf) (w:World) (hr:RdPs w v l) (hl:l.length<=4000000) (hall:∀ a ∈ l,FewPf a) :
    Calls Try.prog 67 #[v] w fun e w'=>∃ v',e=.returned v'/\OwnPx w.heap.size w'.heap.size w' v' l/\Below w.heap.size w w':=by
  obtain ⟨i0,hi,hz0,hz1,hz2⟩:=info_parts Try.infoRPf
  obtain ⟨Z0,rfl,hr⟩:=hr
  have hl':Z0.length<=4000000:=by simpa using hl
  rcases hr with ⟨a,cap,rfl,rfl,-⟩ | ⟨b,off,cap,h0,rfl,h1,h2,h3,h4⟩
  · go_enter Try.func67,Try.ntmps67
    go_wp2_with (refine wpList_make_full _ rfl _ _ 61 rfl w.heap.size 174 i0 (.agg #[.int .i64 0,.slice none 0 0,.int .i64 0,.int .i64 0,.slice none 0 0]) 5 Try.underlying61 hi hz0 hz1 .i64 .i64 _ _ 0 rfl rfl rfl rfl (by omega) (by unfold maxLen;omega) (Nat.le_refl _) ?_;intro w1 hown hgrow)
    have hb1:Below w.heap.size w w1:=(Below.refl _ _).grown hgrow (Nat.le_refl _) (by intro k hk;cases hk)
    refine wp_loop_rounds 1 ?_
    rw [rounds_succ]
    go_wp2
    go_ret
    have e:=made_flat (Value.agg #[.int .i64 0,.slice none 0 0,.int .i64 0,.int .i64 0,.slice none 0 0]).cells 5 0 rfl (by omega)
    rw [e] at hown
    exact ⟨_,rfl,⟨[],rfl,hown,top_row hown,Parts.nil _ _ _ _ _⟩,hb1⟩
  · obtain ⟨N,hN⟩:∃ N,Z0.length=N:=⟨_,rfl⟩
    rw [hN] at h1 hl' ⊢
    go_enter Try.func67,Try.ntmps67
    go_wp2_with (refine wpList_make_full _ rfl _ _ 61 rfl w.heap.size 174 i0 (.agg #[.int .i64 0,.slice none 0 0,.int .i64 0,.int .i64 0,.slice none 0 0]) 5 Try.underlying61 hi hz0 hz1 .i64 .i64 _ _ N rfl rfl rfl rfl (by rw [hz2];omega) (by unfold maxLen;omega) (Nat.le_refl _) ?_;intro w1 hown hgrow)
    have hb1:Below w.heap.size w w1:=(Below.refl _ _).grown hgrow (Nat.le_refl _) (by intro k hk;cases hk)
    have HN:=hide hN
    have H4:=hide h4
    have HA:=hide hall
    clear hN h4 hall
    go_loopw [4] (fun i wr=>∃ (k:Nat) (Z:List (Pf × Pv)),k<=N/\i=.int .i64 k/\Z.map (·.1)=(Z0.map (·.1)).take k/\wr.ownsRow w.heap.size 174 5 (.slice (some ⟨w.heap.size,0,none⟩) N N) N (prt (Z.map (fun q=>pfC q.1 q.2)) pfCZ N).flatten/\Parts (fun a b w q=>OwnPf a b w q.1 q.2) w.heap.size wr.heap.size (some w.heap.size) wr Z/\Below w.heap.size w wr)
      (fun i _=>N - (intOf i).toNat)
    case atStart =>
      refine ⟨0,[],Nat.zero_le _,rfl,rfl,?_,Parts.nil _ _ _ _ _,hb1⟩
      rw [List.map_nil,prt_zero]
      have e:=made_flat (Value.agg #[.int .i64 0,.slice none 0 0,.int .i64 0,.int .i64 0,.slice none 0 0]).cells 5 N rfl (by omega)
      rw [e] at hown
      exact hown
    case round =>
      obtain ⟨k,Z,hk,rfl,hZ,ho,hpt,hb⟩:=hrel
      clear hown hgrow hb1
      have hZl:(Z.map (fun q=>pfC q.1 q.2)).length=k:=by have:=congrArg List.length hZ;simp at this;simp;have:=HN.out;omega
      by_cases hlt:k < N
      · have hk0:k < Z0.length:=by rw [HN.out];exact hlt
        have hrg:=range_below (H4.out k hk0).1 hb h3
        have HT:=hide (toProof_any Z0[k].1 Z0[k].2 wr ((H4.out k hk0).2.below hb (Nat.le_refl _)) (HA.out _ (List.mem_map.2 ⟨_,List.getElem_mem hk0,rfl⟩)))
        have hli:(k:Int) < (N:Int):=by omega
        have psz:=prt_sz 5 (Z.map (fun q=>pfC q.1 q.2)) pfCZ N (mapC_sz pfC_sz Z) rfl
        have plen:=prt_len (Z.map (fun q=>pfC q.1 q.2)) pfCZ N (by omega)
        have Hput:Hid (∀ u':Pv,setAll (prt (Z.map (fun q=>pfC q.1 q.2)) pfCZ N).flatten (k * 5) (pfC Z0[k].1 u')=(prt ((Z ++ [(Z0[k].1,u')]).map (fun q=>pfC q.1 q.2)) pfCZ N).flatten):=hide (fun u'=>by
          rw [setAll_flat 5 (pfC Z0[k].1 u') _ k (by rw [plen];exact hlt) psz rfl,prt_next _ _ _ _ k hZl.symm hlt,List.map_append]
          rfl)
        have HZ2:Hid (∀ u':Pv,(Z ++ [(Z0[k].1,u')]).map (·.1)=(Z0.map (·.1)).take (k+1)):=hide (fun u'=>by rw [List.map_append,hZ,List.take_succ_eq_append_getElem (by simpa using hk0)];simp)
        have Hln:Hid (k * 5+5<=(prt (Z.map (fun q=>pfC q.1 q.2)) pfCZ N).flatten.length):=hide (by rw [flat_len 5 _ psz,plen];omega)
        have Hpt:=hide hpt
        have hgl:w.heap.size < wr.heap.size:=(World.ownsRow.lt ho w.heap.size rfl).2
        have Ho:=hide ho
        have hil:(Try.prog.info? 167).map (·.size)=some (pfC Z0[k].1 Z0[k].2).length:=Try.infoWPf
        rw [show pfV Z0[k].1 Z0[k].2=.agg (pfC Z0[k].1 Z0[k].2).toArray from rfl] at HT
        have Hil:=hide hil
        have Hrg:=hide hrg
        clear hpt psz plen hZl hZ ho hrg hil
        generalize pfC Z0[k].1 Z0[k].2=cs at HT Hil Hrg
        generalize Z0[k].1=p at HT Hput HZ2
        go_wp2_with (first
          | (refine wpList_load_mid rfl 167 _ rfl b (off+k * 5) rfl cs _ Hrg.out Try.underlying167 rfl Hil.out ?_)
          | fail)
        refine HT.out.mono ?_
        rintro e w2 ⟨u',rfl,ho',hb2⟩
        have hB2:=hb.trans (hb2.mono hb.size)
        have HZ3:=hide (HZ2.out u')
        have ho2:=row_below Ho.out hb2 (Nat.le_refl _)
        have Hth:=hide (show w2.there w.heap.size (k * 5) (pfC p u').toArray.size from row_thereN ho2 Hln.out)
        have HR:=hide (putC_row (pfC p u') w2 (k * 5) _ ho2)
        rw [Hput.out] at HR
        have HF:=hide (hB2.trans (putC_below (Nat.le_refl _) (pfC p u') w2 (k * 5)))
        have s2:=hb2.size
        have HP:=hide (show Parts (fun a b w q=>OwnPf a b w q.1 q.2) w.heap.size (w2.setCells w.heap.size (k * 5) (pfC p u')).heap.size (some w.heap.size) (w2.setCells w.heap.size (k * 5) (pfC p u')) (Z ++ [(p,u')]) from by
          rw [size_sets]
          refine Parts.turn ?_ (fun a b q h1 h2 h3 hq=>hq.kept (Kept.setCs w2 _ _ (by have:=h3 _ rfl;omega)))
          exact (Hpt.out.turn (fun a b q h1 h2 _ hq=>hq.kept (Kept.of_below hb2 (Nat.le_refl _)))).snoc (p,u') (Nat.le_refl _) (by omega) s2 (fun g e=>by cases e;omega) ho')
        have H1:Hid ((pfC p u').toArray.all (·.oneCell')=true):=hide (by rw [List.all_toArray];exact pfC_one ho'.rd)
        have Hi2:Hid ((Try.prog.info? 174).map (·.size)=some (pfC p u').toArray.size):=hide Try.infoPf
        rw [show pfV p u'=.agg (pfC p u').toArray from rfl]
        clear hb2 hB2 ho' ho2 s2 HZ2 Hput HT
        generalize pfC p u'=ds at Hth HR HF HP H1 Hi2
        go_wp2_with (first
          | (refine wpList_store_mid rfl 174 _ _ rfl w.heap.size (k * 5) ds.toArray rfl rfl Hth.out Hi2.out H1.out ?_)
          | fail)
        go_roundw
        case rel=>exact ⟨k+1,_,by omega,by go_num,HZ3.out,HR.out,HP.out,HF.out⟩
        case measure=>simp [intOf];omega
      · have e:k=N:=by omega
        subst e
        rw [prt_all _ _ _ hZl] at ho
        have hZe:Z.map (·.1)=Z0.map (·.1):=by rw [hZ,List.take_of_length_le (by simp;have:=HN.out;omega)]
        have hZn:Z.length=k:=by simpa using hZl
        go_wp2
        go_ret
        subst hZn
        exact ⟨_,rfl,⟨Z,hZe,ho,top_row ho,hpt.no (fun g e=>by cases e;exact .inr (.inr rfl))⟩,hb⟩
theorem toVote_any (r k:Int) (s:ByteArray) (w:World):Calls Try.prog 68 #[.agg #[.int .i64 r,.int .i64 k,.string s]] w fun e w'=>e=.returned (.agg #[.int .i64 r,.int .i64 k,.string s])/\Below w.heap.size w w':=by
  go_enter Try.func68,Try.ntmps68
  go_wp2
  refine bodyPost_ret (v:=.agg #[.int .i64 r,.int .i64 k,.string s]) (by simp [results,Try.f68,go_sem]) rfl ?_
  exact ⟨rfl,((((Below.refl _ w).alloc (Nat.le_refl _) _).alloc (by simp) _).alloc (by simp;omega) _)⟩
theorem eqVote_same (r k:Int) (s:ByteArray) (w:World):Calls Try.prog 79 #[.agg #[.int .i64 r,.int .i64 k,.string s],.agg #[.int .i64 r,.int .i64 k,.string s]] w fun e w'=>e=.returned (.bool true)/\Below w.heap.size w w':=by
  have HB:=hide (((Below.refl _ w).alloc (Nat.le_refl _) (.cells #[.int .i64 r,.int .i64 k,.string s] 109)).alloc (by simp) (.cells #[.int .i64 r,.int .i64 k,.string s] 109))
  go_enter Try.func79,Try.ntmps79
  go_wp2
  go_ret
  exact ⟨rfl,HB.out⟩
theorem szVote_any (r k:Int) (s:ByteArray) (m:Nat) (w:World) (hm:m<=100000000) (hs:s.size<=9223372036854775807):Calls Try.prog 57 #[.agg #[.int .i64 r,.int .i64 k,.string s],.int .i64 (m:Int)] w fun e w'=>∃ q:Int,e=.returned (.int .i64 q)/\(0<=q->q<=(m:Int))/\Below w.heap.size w w':=by
  have HB:=hide ((Below.refl _ w).alloc (Nat.le_refl _) (.cells #[.int .i64 r,.int .i64 k,.string s] 97))
  have w1:IntKind.i64.wrap ((m:Int) - (s.size:Int))=m - s.size:=by rw [IntKind.wrap_i64];omega
  by_cases h1:(m:Int) - (s.size:Int) < 0
  · go_enter Try.func57,Try.ntmps57
    go_wp2
    go_ret
    exact ⟨-1,rfl,fun h=>by omega,HB.out⟩
  · go_enter Try.func57,Try.ntmps57
    go_wp2
    go_ret
    exact ⟨(m:Int) - s.size,rfl,fun h=>by omega,HB.out⟩
theorem toGone_any (r k:Int) (s:ByteArray) (w:World):Calls Try.prog 69 #[.agg #[.int .i64 r,.int .i64 k,.string s]] w fun e w'=>e=.returned (.agg #[.int .i64 r,.int .i64 k,.string s])/\Below w.heap.size w w':=by
  go_enter Try.func69,Try.ntmps69
  go_wp2
  refine bodyPost_ret (v:=.agg #[.int .i64 r,.int .i64 k,.string s]) (by simp [results,Try.f69,go_sem]) rfl ?_
  exact ⟨rfl,((((Below.refl _ w).alloc (Nat.le_refl _) _).alloc (by simp) _).alloc (by simp;omega) _)⟩
theorem eqGone_same (r k:Int) (s:ByteArray) (w:World):Calls Try.prog 80 #[.agg #[.int .i64 r,.int .i64 k,.string s],.agg #[.int .i64 r,.int .i64 k,.string s]] w fun e w'=>e=.returned (.bool true)/\Below w.heap.size w w':=by
  have HB:=hide (((Below.refl _ w).alloc (Nat.le_refl _) (.cells #[.int .i64 r,.int .i64 k,.string s] 110)).alloc (by simp) (.cells #[.int .i64 r,.int .i64 k,.string s] 110))
  go_enter Try.func80,Try.ntmps80
  go_wp2
  go_ret
  exact ⟨rfl,HB.out⟩
theorem szGone_any (r k:Int) (s:ByteArray) (m:Nat) (w:World) (hm:m<=100000000) (hs:s.size<=9223372036854775807):Calls Try.prog 58 #[.agg #[.int .i64 r,.int .i64 k,.string s],.int .i64 (m:Int)] w fun e w'=>∃ q:Int,e=.returned (.int .i64 q)/\(0<=q->q<=(m:Int))/\Below w.heap.size w w':=by
  have HB:=hide ((Below.refl _ w).alloc (Nat.le_refl _) (.cells #[.int .i64 r,.int .i64 k,.string s] 99))
  have w1:IntKind.i64.wrap ((m:Int) - (s.size:Int))=m - s.size:=by rw [IntKind.wrap_i64];omega
  by_cases h1:(m:Int) - (s.size:Int) < 0
  · go_enter Try.func58,Try.ntmps58
    go_wp2
    go_ret
    exact ⟨-1,rfl,fun h=>by omega,HB.out⟩
  · go_enter Try.func58,Try.ntmps58
    go_wp2
    go_ret
    exact ⟨(m:Int) - s.size,rfl,fun h=>by omega,HB.out⟩
end Go.Proofs.Ytfdbedenlbikgaa
