/- The landed code's epochOk, of any node. -/
import Derived.Test.YtamljhcmiphdgaaGreatDoorZvBkOkI
set_option maxRecDepth 20000
set_option maxHeartbeats 16000000
namespace Go.Proofs.YtamljhcmiphdgaaGreatDoor
open Go.RowKit Go.Sort
set_option linter.unusedVariables false
theorem Blk.keptG {W W':World} {row:Option Nat} {B:Nat} {t:TypeId} {cs:List Value} (h:Blk W B t cs) (hg:W.grownBy W' row) (hne:∀ q,row=some q->q ≠ B):Blk W' B t cs:=(hg.block B h.lt (fun e=>hne B e.symm rfl)).trans h
theorem RdKs.parts {w:World} {a:Option Addr} {cap:Nat} {l:List Bk} (h:RdKs w (.slice a l.length cap) l) (hl:0 < l.length):∃ b off,a=some ⟨b,off,none⟩/\b < w.heap.size/\∀ i (h:i < l.length),∃ bv,BkAt w b (off+i * 14) l[i] bv/\RdK w l[i] bv:=by
 rcases h with ⟨a',cap',e,rfl,hn⟩ | ⟨b,off,cap',h0,e,h1,h2,h3,h4⟩
 ·simp at hl
 ·simp only [Value.slice.injEq] at e
  exact ⟨b,off,e.1,h3,h4⟩
theorem jS_ {r b:Int} {ws:List ByteArray} (h:rootB r b ws=true):b=-1:=by
 unfold rootB at h
 simp only [Bool.and_eq_true,decide_eq_true_eq] at h
 omega
theorem id_ge {b:Bk} (h:blB b=true):0<=b.id:=by
 unfold blB inB at h
 simp only [Bool.and_eq_true,decide_eq_true_eq] at h
 omega
theorem cV_ {l:List Bk} {k i:Nat} (hk:k<=l.length) (h:i < ((l.take k).map (·.id)).length):((l.take k).map (·.id))[i]=(l[i]'(by simp at h;omega)).id:=by simp
theorem kJ_ {l:List Bk} {k:Nat} (hk:k<=l.length) (h:AscP l k):∀ a b (ha:a < ((l.take k).map (·.id)).length) (hb:b < ((l.take k).map (·.id)).length),a < b->((l.take k).map (·.id))[a] < ((l.take k).map (·.id))[b]:=fun a b ha hb hab=>by
 rw [cV_ hk ha,cV_ hk hb]
 simp at ha hb
 exact h a b (by omega) (by omega) hab (by omega)
theorem kp_ {l:List Bk} {k:Nat} (hk:k < l.length) {Bs:List Nat} (hl:Bs.length=k) (hasc:AscP l k) (hall:∀ j (hj:j < l.length),j < k->okP l j hj) {x:Value} (h:LmP Bs ((l.take k).map (·.id)) l[k].qb x) :
  (x=.pointer none/\∀ j (hj:j < l.length),j < k->l[j].id ≠ l[k].qb)\/∃ p,∃ hp:p < k,(l[p]'(by omega)).id=l[k].qb/\x=ptr (Bs[p]'(by omega)):=by
 rcases h with ⟨rfl,h⟩ | ⟨p,h1,h2,e,rfl⟩
 ·refine .inl ⟨rfl,fun j hj hjk e=>h j (by simp;omega) ?_⟩
  rw [cV_ (by omega)];exact e
 ·rw [cV_ (by omega)] at e
  exact .inr ⟨p,by omega,e,rfl⟩
theorem ok_iff {l:List Bk} {k:Nat} (hk:k < l.length) (hasc:AscP l k) (hB:blB l[k]=true) (hE:l[k].ep=(l[0]'(by omega)).ep) (hP:0 < k->(l[k - 1]'(by omega)).id < l[k].id) (hn:rootB l[k].qr l[k].qb l[k].qw=false) :
  ((∀ j (hj:j < l.length),j < k->l[j].id ≠ l[k].qb)->¬ okP l k hk)/\∀ p (hp:p < k),(l[p]'(by omega)).id=l[k].qb->(okP l k hk ↔ (l[p]'(by omega)).rd=l[k].qr):=by
 refine ⟨fun h o=>?_,fun p hp e=>⟨fun o=>?_,fun h=>⟨hB,hE,hP,.inr ⟨p,hp,e,h⟩⟩⟩⟩
 ·rcases o.2.2.2 with r | ⟨j,hj,e,_⟩
  ·rw [hn] at r;cases r
  ·exact h j (by omega) hj e
 ·rcases o.2.2.2 with r | ⟨j,hj,e2,f⟩
  ·rw [hn] at r;cases r
  ·obtain rfl:p=j:=hasc.one (by omega) (by omega) hp hj (by rw [e,e2])
   exact f
theorem hL_ (v : Value) (l:List Bk) (w:World) (hr:RdKs w v l) (hl:l.length<=4000000) (hf:∀ b ∈ l,FewK b) (hbd:∀ b ∈ l,-9223372036854775808<=b.tr/\b.tr<=9223372036854775807) :
  Calls Tryz.prog 177 #[v] w fun e w'=>∃ ta tn tc,e=.returned (.tuple #[.agg #[.slice ta tn tc],.bool (treeB l)])/\(treeB l=true->∃ Bs,Limbs w.heap.size w' (.slice ta tn tc) l l.length Bs)/\Below w.heap.size w w':=by
 obtain ⟨a0,cap0,rfl⟩:=hr.shape
 have Hr:=a_ hr
 by_cases hbig:400 < l.length
 ·have HX:=a_ (gd_ hbig)
  have hb1:Below w.heap.size w ((w.alloc (.cells #[.slice none 0 0] 221)).alloc (.cells #[.slice none 0 0] 221)):=((br_ _ w).alloc (nr_ _) _).alloc (by simp) _
  have HB:=a_ hb1
  have hbg:(400:Int) < (l.length:Int):=by omega
  clear hr hb1
  go_enter Tryz.func177,Tryz.ntmps177
  go_wp2
  refine bodyPost_ret (v:=.tuple #[.agg #[.slice none 0 0],.bool false]) (by simp [results,Tryz.f177,go_sem]) rfl ?_
  refine ⟨none,0,0,by rw [HX.out],?_,HB.out⟩
  intro h
  rw [HX.out] at h
  cases h
 ·have hsm : (l.length:Int)<=400:=by omega
  have hsmN:l.length<=400:=by omega
  have Hf:=a_ hf
  have Hd:=a_ hbd
  clear hf hbd hr hbig
  go_enter Tryz.func177,Tryz.ntmps177
  go_wp2
  obtain ⟨wS,hwS⟩:∃ x,(w.alloc (.cells #[.slice none 0 0] 221)).alloc (.cells #[.slice none 0 0] 221)=x:=⟨_,rfl⟩
  rw [hwS]
  have bS:Below w.heap.size w wS:=by rw [<- hwS];exact ((br_ _ w).alloc (nr_ _) _).alloc (by simp) _
  have kS1:Blk wS (w.heap.size+1) 221 [.slice none 0 0]:=by rw [<- hwS];exact Blk.newR _ _ [.slice none 0 0] _ (by simp)
  have kS0:Blk wS w.heap.size 221 [.slice none 0 0]:=by rw [<- hwS];exact (Blk.new w _ _).below ((br_ (w.heap.size+1) _).alloc (by simp) _) (by omega)
  clear hwS
  go_loopw [14] (fun i wr=>∃ (k:Nat) (tv:Value) (Bs:List Nat),k<=l.length/\i=.int .i64 k/\(∀ j (hj:j < l.length),j < k->okP l j hj)/\Limbs (w.heap.size+2) wr tv l k Bs/\Blk wr w.heap.size 221 [.slice none 0 0]/\Blk wr (w.heap.size+1) 221 [tv]/\Below w.heap.size w wr) (fun i _=>l.length - (intOf i).toNat)
  case atStart=>exact ⟨0,_,[],Nat.zero_le _,rfl,fun j _ hj=>by omega,Limbs.nil _ _ _,kS0,kS1,bS⟩
  case round =>
   clear kS0 kS1 bS
   obtain ⟨k,tv,Bs,hk,rfl,hok,hlm,hk0,hk1,hb⟩:=hrel
   obtain ⟨ta,tc,rfl⟩:=aM_ hlm.row
   have hBl:k<=Bs.length:=by have:=hlm.len;omega
   have hBg:Bs.length<=k:=by have:=hlm.len;omega
   have Hall:=a_ hok
   have Hlm:=a_ hlm
   have HK0:=a_ hk0
   have HK1:=a_ hk1
   clear hok hlm hk0 hk1
   have hgt:w.heap.size+1 < wr.heap.size:=HK1.out.lt
   by_cases hlt:k < l.length
   ·obtain ⟨b,off,rfl,h3,hcell⟩:=Hr.out.parts (by omega)
    have H4:=a_ hcell
    clear hcell
    obtain ⟨lv,hat,hrl⟩:=H4.out k hlt
    obtain ⟨c0,c1,c2,c3,c4,c5,c6,c7,c8,c9,c10,c11,c12,c13⟩:=(hat.below hb h3).cells
    have hli:(k:Int) < (l.length:Int):=by omega
    have hl0:(0:Int) < (l.length:Int):=by omega
    have Hasc:=a_ (ig_ (n:=k) Hall.out)
    have Hno:=a_ (gi_ (l:=l) hlt)
    have Hnx:Hid (okP l k hlt->∀ j (hj:j < l.length),j < k+1->okP l j hj):=a_ (fun h j hj hjk=>by
     by_cases e:j=k
     ·subst e;exact h
     ·exact Hall.out j hj (by omega))
    have Hby:=a_ (ok_iff (l:=l) hlt Hasc.out)
    have Hsay:Hid (∀ x,LmP Bs ((l.take k).map (·.id)) l[k].qb x->_):=a_ (fun x=>kp_ (l:=l) hlt Hlm.out.len Hasc.out Hall.out (x:=x))
    have Hrt:Hid (rootB l[k].qr l[k].qb l[k].qw=true->∀ j (hj:j < l.length),j < k->l[j].id ≠ l[k].qb):=a_ (fun h j hj hjk=>by
     have:=jS_ h
     have:=id_ge (Hall.out j hj hjk).1
     omega)
    have Hdef:Hid (okP l k hlt ↔ blB l[k]=true/\l[k].ep=(l[0]'(by omega)).ep/\(0 < k->(l[k - 1]'(by omega)).id < l[k].id) /\
  (rootB l[k].qr l[k].qb l[k].qw=true\/∃ j,∃ hj:j < k,(l[j]'(by omega)).id=l[k].qb/\(l[j]'(by omega)).rd=l[k].qr)):=a_ Iff.rfl
    have Hprev:Hid (k ≥ 1->wr.cell? ⟨b,off+(k - 1) * 14,none⟩=some (.int .i64 (l[k - 1]'(by omega)).id)):=a_ (fun hk1=>by
     obtain ⟨lv2,hat2,_⟩:=H4.out (k - 1) (by omega)
     exact (hat2.below hb h3).cells.1)
    have hfst:wr.cell? ⟨b,off+1,none⟩=some (.int .i64 (l[0]'(by omega)).ep):=by
     obtain ⟨lv2,hat2,_⟩:=H4.out 0 (by omega)
     have h:=(hat2.below hb h3).cells.2.1
     rwa [Nat.zero_mul,Nat.add_zero] at h
    have HF:=Hf.out l[k] (List.getElem_mem hlt)
    have HD:=Hd.out l[k] (List.getElem_mem hlt)
    have HQ:=a_ (fun V (hV:Below wr.heap.size wr V)=>cT_ l[k] lv V ((hrl.below hb (nr_ _)).below hV (nr_ _)) HF HD)
    have HR:=a_ (fun V (hV:Below wr.heap.size wr V)=>ad_ l[k].qr l[k].qb lv.q l[k].qw V ((hrl.below hb (nr_ _)).below hV (nr_ _)).q HF.q)
    have HA:=a_ (fun V (hV:Below wr.heap.size wr V)=>hs_ (.slice ta k tc) Bs ((l.take k).map (·.id)) l[k].qb V (fun U hU=>((Hlm.out.below hV (nr_ _)).below hU (nr_ _)).rdP) (kJ_ hk Hasc.out) (by omega))
    have Hsn:Hid (∀ (w1 w':World) (v':Value) (B:Nat) (p:Value),Limbs (w.heap.size+2) w1 (.slice ta k tc) l k Bs->w1.grownBy w' (Value.slice ta k tc).ownBlock->w'.ownsRow (w.heap.size+2) 227 1 v' (k+1) (Bs.map ptr ++ [ptr B])->Blk w' B 230 (limC l[k] lv p)->w.heap.size+2<=B->((rootB l[k].qr l[k].qb l[k].qw=true/\p=.pointer none)\/∃ j,∃ hj:j < k,(l[j]'(by omega)).id=l[k].qb/\p=ptr (Bs[j]'(by omega)))->Limbs (w.heap.size+2) w' v' l (k+1) (Bs ++ [B])):=a_ (fun w1 w' v' B p h0 hg hrow hB hle hp=>h0.snoc hlt B hg hrow lv p hB hle (by
     rcases hp with hp | ⟨j,hj,e,f⟩
     ·exact .inl hp
     ·exact .inr ⟨j,by rw [h0.len];exact hj,e,f⟩))
    have Hrd:Hid (∀ j (hj:j < k) V,Below wr.heap.size wr V->V.cell? ⟨Bs[j]'(by omega),3,none⟩=some (.int .i64 (l[j]'(by omega)).rd)):=a_ (fun j hj V hV=>by
     obtain ⟨bv,p,kk,-⟩:=Hlm.out.at_ j (by omega) (by omega)
     rw [(kk.below hV kk.lt).cell 3]
     rfl)
    have hbs:b < wr.heap.size:=by have:=hb.size;omega
    have Hsh:=a_ hrl.shapes9
    clear hat hrl HF HD
    generalize hEk:l[k]=ak at c0 c1 c2 c3 c4 c5 c6 c7 c8 c9 c10 c11 c12 c13 HQ HR HA Hsh Hdef Hby Hsay Hrt Hsn
    generalize (l[0]'(by omega)).ep=e0 at hfst Hdef Hby
    obtain ⟨aq,cq,aw,cw,ah,ch,at_,ct,an,cn,rfl⟩:=Hsh.out
    clear Hsh hEk
    obtain ⟨id,ep,rd,md,qr,qb,qw,tr,tw,th,ts,en,nx,rt⟩:=ak
    simp only [bkV,qcV,limC,bkC,List.cons_append,List.nil_append] at c0 c1 c2 c3 c4 c5 c6 c7 c8 c9 c10 c11 c12 c13 HQ HR HA Hdef Hby Hsay Hrt Hsn
    generalize (l.take k).map (·.id)=ids at HA Hsay
    generalize rootB qr qb qw=R at HR Hdef Hby Hrt Hsn
    generalize hBk:blB _=B at HQ Hdef Hby
    clear hBk
    go_wp2
    obtain ⟨w1,hw1⟩:∃ x,wr.alloc (.cells #[.int .i64 id,.int .i64 ep,.int .i64 rd,.string md,.int .i64 qr,.int .i64 qb,.slice aq qw.length cq,.int .i64 tr,.slice aw tw.length cw,.slice ah th.length ch,.slice at_ ts.length ct,.bool en,.slice an nx.length cn,.string rt] 146)=x:=⟨_,rfl⟩
    rw [hw1]
    have b1:Below wr.heap.size wr w1:=by rw [<- hw1];exact (br_ _ wr).alloc (nr_ _) _
    have k1:Blk w1 wr.heap.size 146 [.int .i64 id,.int .i64 ep,.int .i64 rd,.string md,.int .i64 qr,.int .i64 qb,.slice aq qw.length cq,.int .i64 tr,.slice aw tw.length cw,.slice ah th.length ch,.slice at_ ts.length ct,.bool en,.slice an nx.length cn,.string rt]:=by rw [<- hw1];exact Blk.new wr _ _
    have s1:wr.heap.size < w1.heap.size:=k1.lt
    clear c0 c1 c2 c3 c4 c5 c6 c7 c8 c9 c10 c11 c12 c13 hw1
    have x0:=k1.cell 0
    have x1:=k1.cell 1
    have x2:=k1.cell 2
    have x3:=k1.cell 3
    have x4:=k1.cell 4
    have x5:=k1.cell 5
    have x6:=k1.cell 6
    have x7:=k1.cell 7
    have x8:=k1.cell 8
    have x9:=k1.cell 9
    have x10:=k1.cell 10
    have x11:=k1.cell 11
    have x12:=k1.cell 12
    have x13:=k1.cell 13
    simp only [gz_,gs_] at x0 x1 x2 x3 x4 x5 x6 x7 x8 x9 x10 x11 x12 x13
    have g0:=cell_regrown x0
    have g1:=cell_regrown x1
    have g2:=cell_regrown x2
    have g3:=cell_regrown x3
    have g4:=cell_regrown x4
    have g5:=cell_regrown x5
    have g6:=cell_regrown x6
    have g7:=cell_regrown x7
    have g8:=cell_regrown x8
    have g9:=cell_regrown x9
    have g10:=cell_regrown x10
    have g11:=cell_regrown x11
    have g12:=cell_regrown x12
    have g13:=cell_regrown x13
    have gf:=cell_regrown ((b1.cell (p:=⟨b,off+1,none⟩) hbs).trans hfst)
    have HQ1:=a_ (fun (d:Nat) (os:Array Obj)=>Calls.regrown_of (HQ.out (grow (redrawn w1 d) os) (b1.trans ((below_regrown w1 d os).mono b1.size))))
    have HB1:=a_ (fun (d:Nat) (os:Array Obj)=>b1.trans ((below_regrown w1 d os).mono b1.size))
    have HKp:=a_ (fun (d:Nat) (os:Array Obj)=>k1.below (below_regrown w1 d os) k1.lt)
    have HL1:=a_ (fun (d:Nat) (os:Array Obj)=>hb.trans ((HB1.out d os).mono hb.size))
    have Hprev1:Hid (k ≥ 1->w1.cell? ⟨b,off+(k - 1) * 14,none⟩=some (.int .i64 (l[k - 1]'(by omega)).id)):=a_ (fun h=>(b1.cell (p:=⟨b,off+(k - 1) * 14,none⟩) hbs).trans (Hprev.out h))
    have Hend:Hid (∀ V,Below wr.heap.size wr V->V.cell? ⟨w.heap.size+1,0,none⟩=some (.slice ta k tc)/\V.cell? ⟨w.heap.size,0,none⟩=some (.slice none 0 0)/\V.frozen? ⟨w.heap.size,0,none⟩=false/\V.frozen? ⟨w.heap.size+1,0,none⟩=false):=a_ (fun V hV=>by
     have q1:=HK1.out.below hV HK1.out.lt
     have q0:=HK0.out.below hV HK0.out.lt
     exact ⟨by rw [q1.cell 0];rfl,by rw [q0.cell 0];rfl,q0.frozen 0,q1.frozen 0⟩)
    clear x0 x1 x2 x3 x4 x5 x6 x7 x8 x9 x10 x11 x12 x13 hfst Hprev HQ k1
    cases B
    ·clear Hprev1
     have hf:=a_ (Hno.out (by rw [Hdef.out];rintro ⟨h,_⟩;cases h))
     clear Hdef Hnx Hno Hby Hsay Hrt Hsn Hrd HA HR
     refine wp_region_quiet_below (by kernel_rfl) (by kernel_rfl) ?_
     repeat (go_big_quiet_step ((go_at_call 190;exact HQ1.out _ _)))
     refine wpQuiet_nil ?_
     intro _ hw'
     obtain ⟨⟨dq,osq⟩,hw''⟩:=hw'
     subst hw''
     have HBW:=a_ (HB1.out dq osq)
     have HL2:=a_ (HL1.out dq osq)
     generalize grow (redrawn w1 dq) osq=w2 at HBW HL2 ⊢
     clear HB1 HKp HL1 HQ1 b1 gf g0 g1 g2 g3 g4 g5 g6 g7 g8 g9 g10 g11 g12 g13
     obtain ⟨t1,t0,u0,-⟩:=Hend.out w2 HBW.out
     have HZ:=a_ ((HL2.out).setCell (p:=⟨w.heap.size,0,none⟩) (nr_ _) (.slice ta k tc))
     clear Hend HK0 HK1
     go_wp2
     refine bodyPost_ret (v:=.tuple #[.agg #[.slice ta k tc],.bool false]) (by simp [results,Tryz.f177,go_sem,t0]) rfl ?_
     exact ⟨ta,k,tc,by rw [hf.out],(fun h=>by rw [hf.out] at h;cases h),HZ.out⟩
    ·by_cases he : ep=e0
     ·have HE := a_ he
      have heq:(ep != e0)=false:=by rw [he];simp
      clear he
      by_cases hk1:k < 1
      ·have hd : decide (0 < k)=false:=by simp;omega
       have hd2:decide ((0:Int) < (k:Int))=false:=by simp;omega
       have hd3:Hid (¬ 0 < k):=a_ (by omega)
       clear Hprev1
       refine wp_region_quiet_below (by kernel_rfl) (by kernel_rfl) ?_
       repeat (go_big_quiet_step ((go_at_call 190;exact HQ1.out _ _)))
       refine wpQuiet_nil ?_
       intro _ hw'
       obtain ⟨⟨dq,osq⟩,hw''⟩:=hw'
       subst hw''
       have hB2:=HB1.out dq osq
       have k2:=HKp.out dq osq
       have HL2:=a_ (HL1.out dq osq)
       generalize grow (redrawn w1 dq) osq=w2 at hB2 k2 HL2 ⊢
       clear HB1 HKp HL1 HQ1 b1 gf g0 g1 g2 g3 g4 g5 g6 g7 g8 g9 g10 g11 g12 g13
       have y5:=k2.cell 5
       simp only [gz_,gs_] at y5
       obtain ⟨t1,-,-,-⟩:=Hend.out w2 hB2
       have K2:=a_ k2
       have HB2:=a_ hB2
       clear k2 hB2
       go_wp2_with fail
       refine (HA.out w2 HB2.out).mono ?_
       rintro e w3 ⟨x,rfl,hx,hb3⟩
       have hB3:=HB2.out.trans (hb3.mono HB2.out.size)
       have HL3:=a_ (HL2.out.trans (hb3.mono HL2.out.size))
       have k3:=K2.out.below hb3 K2.out.lt
       have Hx:=a_ (Hsay.out x hx)
       clear y5 t1 hb3 HL2 K2 HB2 HA hx Hsay
       have y4:=k3.cell 4
       have y5:=k3.cell 5
       have y6:=k3.cell 6
       simp only [gz_,gs_] at y4 y5 y6
       have z4:=cell_regrown y4
       have z5:=cell_regrown y5
       have z6:=cell_regrown y6
       have HR3:=a_ (fun (d:Nat) (os:Array Obj)=>Calls.regrown_of (HR.out (grow (redrawn w3 d) os) (hB3.trans ((below_regrown w3 d os).mono hB3.size))))
       have K3:=a_ k3
       have HB3:=a_ hB3
       clear y4 y5 y6 k3 HR
       cases R
       ·have Hby2:=a_ (Hby.out (by first | rfl | trivial) (by exact HE.out) (by exact fun h=>absurd h hd3.out) (by first | rfl | trivial))
        clear Hby Hrt Hdef
        rcases Hx.out with ⟨rfl,hnone⟩ | ⟨p,hp,he,rfl⟩
        ·have hf:=a_ (Hno.out (Hby2.out.1 hnone))
         clear Hby2 Hno Hnx hnone Hx Hsn Hrd
         go_wp2
         refine wp_region_quiet_below (by kernel_rfl) (by kernel_rfl) ?_
         repeat (go_big_quiet_step ((go_at_call 179;exact HR3.out _ _)))
         refine wpQuiet_nil ?_
         intro _ hw'
         obtain ⟨⟨dq2,osq2⟩,hw''⟩:=hw'
         subst hw''
         have hB4:=HB3.out.trans ((below_regrown w3 dq2 osq2).mono HB3.out.size)
         have HL4:=a_ (HL3.out.trans ((below_regrown w3 dq2 osq2).mono HL3.out.size))
         have k4:=K3.out.below (below_regrown w3 dq2 osq2) K3.out.lt
         generalize grow (redrawn w3 dq2) osq2=w4 at hB4 k4 HL4 ⊢
         clear HB3 HL3 K3 HR3 z4 z5 z6 hB3
         have HBW:=a_ hB4
         clear hB4 k4
         obtain ⟨t1,t0,u0,-⟩:=Hend.out w4 HBW.out
         have HZ:=a_ ((HL4.out).setCell (p:=⟨w.heap.size,0,none⟩) (nr_ _) (.slice ta k tc))
         clear Hend HK0 HK1
         go_wp2
         refine bodyPost_ret (v:=.tuple #[.agg #[.slice ta k tc],.bool false]) (by simp [results,Tryz.f177,go_sem,t0]) rfl ?_
         exact ⟨ta,k,tc,by rw [hf.out],(fun h=>by rw [hf.out] at h;cases h),HZ.out⟩
        ·have HH:=a_ (Hby2.out.2 p hp he)
         exact absurd (Nat.lt_of_le_of_lt (Nat.zero_le _) hp) hd3.out
       ·have hq:=a_ (Hnx.out (Hdef.out.2 ⟨by first | rfl | trivial,by exact HE.out,by exact fun h=>absurd h hd3.out,.inl (by first | rfl | trivial)⟩))
        rcases Hx.out with ⟨rfl,hnone⟩ | ⟨p,hp,he,rfl⟩
        ·clear Hdef Hby Hno Hnx Hrt Hx hnone Hrd
         go_wp2
         refine wp_region_quiet_below (by kernel_rfl) (by kernel_rfl) ?_
         repeat (go_big_quiet_step ((go_at_call 179;exact HR3.out _ _)))
         refine wpQuiet_nil ?_
         intro _ hw'
         obtain ⟨⟨dq2,osq2⟩,hw''⟩:=hw'
         subst hw''
         have hB4:=HB3.out.trans ((below_regrown w3 dq2 osq2).mono HB3.out.size)
         have HL4:=a_ (HL3.out.trans ((below_regrown w3 dq2 osq2).mono HL3.out.size))
         have k4:=K3.out.below (below_regrown w3 dq2 osq2) K3.out.lt
         generalize grow (redrawn w3 dq2) osq2=w4 at hB4 k4 HL4 ⊢
         clear HB3 HL3 K3 HR3 z4 z5 z6 hB3
         obtain ⟨t1,-,-,u1⟩:=Hend.out w4 hB4
         have d0:=k4.cell 0
         have d1:=k4.cell 1
         have d2:=k4.cell 2
         have d3:=k4.cell 3
         have d4:=k4.cell 4
         have d5:=k4.cell 5
         have d6:=k4.cell 6
         have d7:=k4.cell 7
         have d8:=k4.cell 8
         have d9:=k4.cell 9
         have d10:=k4.cell 10
         have d11:=k4.cell 11
         have d12:=k4.cell 12
         have d13:=k4.cell 13
         simp only [gz_,gs_] at d0 d1 d2 d3 d4 d5 d6 d7 d8 d9 d10 d11 d12 d13
         obtain ⟨w5,hw5⟩:∃ x,(w4.alloc (.cells #[.int .i64 id,.int .i64 id,.int .i64 ep,.int .i64 rd,.string md,.int .i64 qr,.int .i64 qb,.slice aq qw.length cq,.int .i64 tr,.slice aw tw.length cw,.slice ah th.length ch,.slice at_ ts.length ct,.bool en,.slice an nx.length cn,.string rt,.pointer none] 230)).alloc (.cells #[ptr w4.heap.size] 227)=x:=⟨_,rfl⟩
         have b5:Below w4.heap.size w4 w5:=by rw [<- hw5];exact ((br_ _ w4).alloc (nr_ _) _).alloc (by simp) _
         have c5:Blk w5 (w4.heap.size+1) 227 [ptr w4.heap.size]:=by rw [<- hw5];exact Blk.newR _ _ [ptr w4.heap.size] _ (by simp)
         have l5:Blk w5 w4.heap.size 230 [.int .i64 id,.int .i64 id,.int .i64 ep,.int .i64 rd,.string md,.int .i64 qr,.int .i64 qb,.slice aq qw.length cq,.int .i64 tr,.slice aw tw.length cw,.slice ah th.length ch,.slice at_ ts.length ct,.bool en,.slice an nx.length cn,.string rt,.pointer none]:=by rw [<- hw5];exact (Blk.new w4 _ _).below ((br_ (w4.heap.size+1) _).alloc (by simp) _) (by omega)
         have hB5:=hB4.trans (b5.mono hB4.size)
         have lm5:=(Hlm.out.below hB4 (nr_ _)).below b5 (nr_ _)
         have HB5:=a_ hB5
         have HL5:=a_ (HL4.out.trans (b5.mono HL4.out.size))
         have C5:=a_ c5
         have L5:=a_ l5
         have LM5:=a_ lm5
         have hs4:=hB4.size
         clear hB4 k4 HL4 b5 c5 l5 hB5 lm5
         simp only [ptr] at hw5
         go_wp2_with (at_builtin;(try rw [hw5]);refine cP_ w5 rfl _ _ rfl (w.heap.size+2) (.slice ta k tc) (w4.heap.size+1) k Bs w4.heap.size rfl rfl LM5.out.row C5.out (by omega) (by have:=HB5.out.size;omega) ?_;intro v6 w6 ho6 hg6;obtain ⟨a6,c6,rfl⟩:=aM_ ho6;have k6:=(HK1.out.below HB5.out HK1.out.lt).keptG hg6 (fun q hq=>by have:=(World.ownsRow.lt LM5.out.row q hq).1;omega);have r6:=k6.cell 0;have f6:=k6.frozen 0;simp only [gz_] at r6)
         have hl6:=L5.out.keptG hg6 (fun q hq e=>by
          rcases LM5.out.row.2 with ⟨hv,_⟩ | ⟨g9,cap9,cur9,hv,hbb,hgg,r9⟩
          ·rw [hv] at hq;cases hq
          ·rw [hv] at hq
           simp only [Value.ownBlock,Option.some.injEq] at hq
           rw [hq,e,show w5.heap[w4.heap.size]?=_ from L5.out] at hgg
           simp only [Option.some.injEq,Obj.cells.injEq] at hgg
           exact absurd hgg.2.1 (by decide))
         have lm6:=Hsn.out w5 w6 (.slice a6 (k+1) c6) w4.heap.size (.pointer none) LM5.out hg6 ho6 hl6 (by omega) (.inl ⟨by first | rfl | trivial,rfl⟩)
         have b6:Below (w.heap.size+2) w5 w6:=(br_ _ _).grown hg6 (by have:=HB5.out.size;omega) (fun q hq=>(World.ownsRow.lt LM5.out.row q hq).1)
         have HLM:=a_ (lm6.other (B_ w6 (w.heap.size+1) 0 (.slice a6 (k+1) c6)) (by omega))
         have HKA:=a_ (((HK0.out.below HB5.out HK0.out.lt).below b6 (by omega)).otherC (w.heap.size+1) 0 (.slice a6 (k+1) c6) (by omega))
         have HKB:=a_ (((HK1.out.below HB5.out HK1.out.lt).below b6 (by omega)).setC 0 (.slice a6 (k+1) c6))
         have HLL:=a_ ((HL5.out.trans (b6.mono (by omega))).setCell (p:=⟨w.heap.size+1,0,none⟩) (by show w.heap.size<=w.heap.size+1;omega) (.slice a6 (k+1) c6))
         go_roundw
         case rel=>exact ⟨k+1,(.slice a6 (k+1) c6),Bs ++ [w4.heap.size],by omega,by go_num,hq.out,HLM.out,HKA.out,HKB.out,HLL.out⟩
         case measure=>simp [intOf];omega
        ·exact absurd he (Hrt.out (by first | rfl | trivial) p (by omega) hp)
      ·have hcp := cell_regrown (Hprev1.out (by omega))
       clear Hprev1
       have hpos:(0:Int) < (k:Int):=by omega
       have hposN:0 < k:=by omega
       have hd1:decide (0 < k)=true:=by simp;omega
       have hix:((k:Int) - 1).toNat=k - 1:=by omega
       have hix1:(0:Int)<=(k:Int) - 1:=by omega
       have hix2:(k:Int) - 1 < (l.length:Int):=by omega
       generalize (l[k - 1]'(by omega)).id=pid at hcp Hdef Hby
       by_cases hless:pid < id
       ·have HLs:=a_ hless
        have hge:decide (pid ≥ id)=false:=by simp;omega
        have hge2:¬ (id<=pid):=by omega
        clear hless
        refine wp_region_quiet_below (by kernel_rfl) (by kernel_rfl) ?_
        repeat (go_big_quiet_step ((go_at_call 190;exact HQ1.out _ _)))
        refine wpQuiet_nil ?_
        intro _ hw'
        obtain ⟨⟨dq,osq⟩,hw''⟩:=hw'
        subst hw''
        have hB2:=HB1.out dq osq
        have k2:=HKp.out dq osq
        have HL2:=a_ (HL1.out dq osq)
        generalize grow (redrawn w1 dq) osq=w2 at hB2 k2 HL2 ⊢
        clear HB1 HKp HL1 HQ1 b1 gf g0 g1 g2 g3 g4 g5 g6 g7 g8 g9 g10 g11 g12 g13
        have y5:=k2.cell 5
        simp only [gz_,gs_] at y5
        obtain ⟨t1,-,-,-⟩:=Hend.out w2 hB2
        have K2:=a_ k2
        have HB2:=a_ hB2
        clear k2 hB2
        go_wp2_with fail
        refine (HA.out w2 HB2.out).mono ?_
        rintro e w3 ⟨x,rfl,hx,hb3⟩
        have hB3:=HB2.out.trans (hb3.mono HB2.out.size)
        have HL3:=a_ (HL2.out.trans (hb3.mono HL2.out.size))
        have k3:=K2.out.below hb3 K2.out.lt
        have Hx:=a_ (Hsay.out x hx)
        clear y5 t1 hb3 HL2 K2 HB2 HA hx Hsay
        have y4:=k3.cell 4
        have y5:=k3.cell 5
        have y6:=k3.cell 6
        simp only [gz_,gs_] at y4 y5 y6
        have z4:=cell_regrown y4
        have z5:=cell_regrown y5
        have z6:=cell_regrown y6
        have HR3:=a_ (fun (d:Nat) (os:Array Obj)=>Calls.regrown_of (HR.out (grow (redrawn w3 d) os) (hB3.trans ((below_regrown w3 d os).mono hB3.size))))
        have K3:=a_ k3
        have HB3:=a_ hB3
        clear y4 y5 y6 k3 HR
        cases R
        ·have Hby2:=a_ (Hby.out (by first | rfl | trivial) (by exact HE.out) (by exact fun _=>HLs.out) (by first | rfl | trivial))
         clear Hby Hrt Hdef
         rcases Hx.out with ⟨rfl,hnone⟩ | ⟨p,hp,he,rfl⟩
         ·have hf:=a_ (Hno.out (Hby2.out.1 hnone))
          clear Hby2 Hno Hnx hnone Hx Hsn Hrd
          go_wp2
          refine wp_region_quiet_below (by kernel_rfl) (by kernel_rfl) ?_
          repeat (go_big_quiet_step ((go_at_call 179;exact HR3.out _ _)))
          refine wpQuiet_nil ?_
          intro _ hw'
          obtain ⟨⟨dq2,osq2⟩,hw''⟩:=hw'
          subst hw''
          have hB4:=HB3.out.trans ((below_regrown w3 dq2 osq2).mono HB3.out.size)
          have HL4:=a_ (HL3.out.trans ((below_regrown w3 dq2 osq2).mono HL3.out.size))
          have k4:=K3.out.below (below_regrown w3 dq2 osq2) K3.out.lt
          generalize grow (redrawn w3 dq2) osq2=w4 at hB4 k4 HL4 ⊢
          clear HB3 HL3 K3 HR3 z4 z5 z6 hB3
          have HBW:=a_ hB4
          clear hB4 k4
          obtain ⟨t1,t0,u0,-⟩:=Hend.out w4 HBW.out
          have HZ:=a_ ((HL4.out).setCell (p:=⟨w.heap.size,0,none⟩) (nr_ _) (.slice ta k tc))
          clear Hend HK0 HK1
          go_wp2
          refine bodyPost_ret (v:=.tuple #[.agg #[.slice ta k tc],.bool false]) (by simp [results,Tryz.f177,go_sem,t0]) rfl ?_
          exact ⟨ta,k,tc,by rw [hf.out],(fun h=>by rw [hf.out] at h;cases h),HZ.out⟩
         ·have HH:=a_ (Hby2.out.2 p hp he)
          have zr0:=Hrd.out p hp w3 HB3.out
          have zr:=cell_regrown zr0
          have Hpe:=a_ he
          have Hpp:=a_ hp
          generalize hBp:Bs[p]'(by omega)=Bp at zr0 zr
          have HBp:=a_ hBp
          clear Hby2 zr0 he Hx hBp
          by_cases hrd:(l[p]'(by omega)).rd=qr
          ·have hq:=a_ (Hnx.out (HH.out.2 hrd))
           rw [hrd] at zr
           clear HH Hnx Hno hrd Hrd
           simp only [ptr] at *
           go_wp2
           refine wp_region_quiet_below (by kernel_rfl) (by kernel_rfl) ?_
           repeat (go_big_quiet_step ((go_at_call 179;exact HR3.out _ _)))
           refine wpQuiet_nil ?_
           intro _ hw'
           obtain ⟨⟨dq2,osq2⟩,hw''⟩:=hw'
           subst hw''
           have hB4:=HB3.out.trans ((below_regrown w3 dq2 osq2).mono HB3.out.size)
           have HL4:=a_ (HL3.out.trans ((below_regrown w3 dq2 osq2).mono HL3.out.size))
           have k4:=K3.out.below (below_regrown w3 dq2 osq2) K3.out.lt
           generalize grow (redrawn w3 dq2) osq2=w4 at hB4 k4 HL4 ⊢
           clear HB3 HL3 K3 HR3 z4 z5 z6 hB3
           clear zr
           obtain ⟨t1,-,-,u1⟩:=Hend.out w4 hB4
           have d0:=k4.cell 0
           have d1:=k4.cell 1
           have d2:=k4.cell 2
           have d3:=k4.cell 3
           have d4:=k4.cell 4
           have d5:=k4.cell 5
           have d6:=k4.cell 6
           have d7:=k4.cell 7
           have d8:=k4.cell 8
           have d9:=k4.cell 9
           have d10:=k4.cell 10
           have d11:=k4.cell 11
           have d12:=k4.cell 12
           have d13:=k4.cell 13
           simp only [gz_,gs_] at d0 d1 d2 d3 d4 d5 d6 d7 d8 d9 d10 d11 d12 d13
           obtain ⟨w5,hw5⟩:∃ x,(w4.alloc (.cells #[.int .i64 id,.int .i64 id,.int .i64 ep,.int .i64 rd,.string md,.int .i64 qr,.int .i64 qb,.slice aq qw.length cq,.int .i64 tr,.slice aw tw.length cw,.slice ah th.length ch,.slice at_ ts.length ct,.bool en,.slice an nx.length cn,.string rt,.pointer (some ⟨Bp,0,none⟩)] 230)).alloc (.cells #[ptr w4.heap.size] 227)=x:=⟨_,rfl⟩
           have b5:Below w4.heap.size w4 w5:=by rw [<- hw5];exact ((br_ _ w4).alloc (nr_ _) _).alloc (by simp) _
           have c5:Blk w5 (w4.heap.size+1) 227 [ptr w4.heap.size]:=by rw [<- hw5];exact Blk.newR _ _ [ptr w4.heap.size] _ (by simp)
           have l5:Blk w5 w4.heap.size 230 [.int .i64 id,.int .i64 id,.int .i64 ep,.int .i64 rd,.string md,.int .i64 qr,.int .i64 qb,.slice aq qw.length cq,.int .i64 tr,.slice aw tw.length cw,.slice ah th.length ch,.slice at_ ts.length ct,.bool en,.slice an nx.length cn,.string rt,.pointer (some ⟨Bp,0,none⟩)]:=by rw [<- hw5];exact (Blk.new w4 _ _).below ((br_ (w4.heap.size+1) _).alloc (by simp) _) (by omega)
           have hB5:=hB4.trans (b5.mono hB4.size)
           have lm5:=(Hlm.out.below hB4 (nr_ _)).below b5 (nr_ _)
           have HB5:=a_ hB5
           have HL5:=a_ (HL4.out.trans (b5.mono HL4.out.size))
           have C5:=a_ c5
           have L5:=a_ l5
           have LM5:=a_ lm5
           have hs4:=hB4.size
           clear hB4 k4 HL4 b5 c5 l5 hB5 lm5
           simp only [ptr] at hw5
           go_wp2_with (at_builtin;(try rw [hw5]);refine cP_ w5 rfl _ _ rfl (w.heap.size+2) (.slice ta k tc) (w4.heap.size+1) k Bs w4.heap.size rfl rfl LM5.out.row C5.out (by omega) (by have:=HB5.out.size;omega) ?_;intro v6 w6 ho6 hg6;obtain ⟨a6,c6,rfl⟩:=aM_ ho6;have k6:=(HK1.out.below HB5.out HK1.out.lt).keptG hg6 (fun q hq=>by have:=(World.ownsRow.lt LM5.out.row q hq).1;omega);have r6:=k6.cell 0;have f6:=k6.frozen 0;simp only [gz_] at r6)
           have hl6:=L5.out.keptG hg6 (fun q hq e=>by
            rcases LM5.out.row.2 with ⟨hv,_⟩ | ⟨g9,cap9,cur9,hv,hbb,hgg,r9⟩
            ·rw [hv] at hq;cases hq
            ·rw [hv] at hq
             simp only [Value.ownBlock,Option.some.injEq] at hq
             rw [hq,e,show w5.heap[w4.heap.size]?=_ from L5.out] at hgg
             simp only [Option.some.injEq,Obj.cells.injEq] at hgg
             exact absurd hgg.2.1 (by decide))
           have lm6:=Hsn.out w5 w6 (.slice a6 (k+1) c6) w4.heap.size (.pointer (some ⟨Bp,0,none⟩)) LM5.out hg6 ho6 hl6 (by omega) (.inr ⟨p,Hpp.out,Hpe.out,by rw [HBp.out]⟩)
           have b6:Below (w.heap.size+2) w5 w6:=(br_ _ _).grown hg6 (by have:=HB5.out.size;omega) (fun q hq=>(World.ownsRow.lt LM5.out.row q hq).1)
           have HLM:=a_ (lm6.other (B_ w6 (w.heap.size+1) 0 (.slice a6 (k+1) c6)) (by omega))
           have HKA:=a_ (((HK0.out.below HB5.out HK0.out.lt).below b6 (by omega)).otherC (w.heap.size+1) 0 (.slice a6 (k+1) c6) (by omega))
           have HKB:=a_ (((HK1.out.below HB5.out HK1.out.lt).below b6 (by omega)).setC 0 (.slice a6 (k+1) c6))
           have HLL:=a_ ((HL5.out.trans (b6.mono (by omega))).setCell (p:=⟨w.heap.size+1,0,none⟩) (by show w.heap.size<=w.heap.size+1;omega) (.slice a6 (k+1) c6))
           go_roundw
           case rel=>exact ⟨k+1,(.slice a6 (k+1) c6),Bs ++ [w4.heap.size],by omega,by go_num,hq.out,HLM.out,HKA.out,HKB.out,HLL.out⟩
           case measure=>simp [intOf];omega
          ·have hf:=a_ (Hno.out (fun o=>hrd (HH.out.1 o)))
           have hne:((l[p]'(by omega)).rd != qr)=true:=by rw [bne_iff_ne];exact hrd
           generalize (l[p]'(by omega)).rd=rp at zr hne
           clear HH Hnx Hno hrd Hsn Hrd
           simp only [ptr] at *
           go_wp2
           refine wp_region_quiet_below (by kernel_rfl) (by kernel_rfl) ?_
           repeat (go_big_quiet_step ((go_at_call 179;exact HR3.out _ _)))
           refine wpQuiet_nil ?_
           intro _ hw'
           obtain ⟨⟨dq2,osq2⟩,hw''⟩:=hw'
           subst hw''
           have hB4:=HB3.out.trans ((below_regrown w3 dq2 osq2).mono HB3.out.size)
           have HL4:=a_ (HL3.out.trans ((below_regrown w3 dq2 osq2).mono HL3.out.size))
           have k4:=K3.out.below (below_regrown w3 dq2 osq2) K3.out.lt
           generalize grow (redrawn w3 dq2) osq2=w4 at hB4 k4 HL4 ⊢
           clear HB3 HL3 K3 HR3 z4 z5 z6 hB3
           have HBW:=a_ hB4
           clear hB4 k4 zr
           obtain ⟨t1,t0,u0,-⟩:=Hend.out w4 HBW.out
           have HZ:=a_ ((HL4.out).setCell (p:=⟨w.heap.size,0,none⟩) (nr_ _) (.slice ta k tc))
           clear Hend HK0 HK1
           go_wp2
           refine bodyPost_ret (v:=.tuple #[.agg #[.slice ta k tc],.bool false]) (by simp [results,Tryz.f177,go_sem,t0]) rfl ?_
           exact ⟨ta,k,tc,by rw [hf.out],(fun h=>by rw [hf.out] at h;cases h),HZ.out⟩
        ·have hq:=a_ (Hnx.out (Hdef.out.2 ⟨by first | rfl | trivial,by exact HE.out,by exact fun _=>HLs.out,.inl (by first | rfl | trivial)⟩))
         rcases Hx.out with ⟨rfl,hnone⟩ | ⟨p,hp,he,rfl⟩
         ·clear Hdef Hby Hno Hnx Hrt Hx hnone Hrd
          go_wp2
          refine wp_region_quiet_below (by kernel_rfl) (by kernel_rfl) ?_
          repeat (go_big_quiet_step ((go_at_call 179;exact HR3.out _ _)))
          refine wpQuiet_nil ?_
          intro _ hw'
          obtain ⟨⟨dq2,osq2⟩,hw''⟩:=hw'
          subst hw''
          have hB4:=HB3.out.trans ((below_regrown w3 dq2 osq2).mono HB3.out.size)
          have HL4:=a_ (HL3.out.trans ((below_regrown w3 dq2 osq2).mono HL3.out.size))
          have k4:=K3.out.below (below_regrown w3 dq2 osq2) K3.out.lt
          generalize grow (redrawn w3 dq2) osq2=w4 at hB4 k4 HL4 ⊢
          clear HB3 HL3 K3 HR3 z4 z5 z6 hB3
          obtain ⟨t1,-,-,u1⟩:=Hend.out w4 hB4
          have d0:=k4.cell 0
          have d1:=k4.cell 1
          have d2:=k4.cell 2
          have d3:=k4.cell 3
          have d4:=k4.cell 4
          have d5:=k4.cell 5
          have d6:=k4.cell 6
          have d7:=k4.cell 7
          have d8:=k4.cell 8
          have d9:=k4.cell 9
          have d10:=k4.cell 10
          have d11:=k4.cell 11
          have d12:=k4.cell 12
          have d13:=k4.cell 13
          simp only [gz_,gs_] at d0 d1 d2 d3 d4 d5 d6 d7 d8 d9 d10 d11 d12 d13
          obtain ⟨w5,hw5⟩:∃ x,(w4.alloc (.cells #[.int .i64 id,.int .i64 id,.int .i64 ep,.int .i64 rd,.string md,.int .i64 qr,.int .i64 qb,.slice aq qw.length cq,.int .i64 tr,.slice aw tw.length cw,.slice ah th.length ch,.slice at_ ts.length ct,.bool en,.slice an nx.length cn,.string rt,.pointer none] 230)).alloc (.cells #[ptr w4.heap.size] 227)=x:=⟨_,rfl⟩
          have b5:Below w4.heap.size w4 w5:=by rw [<- hw5];exact ((br_ _ w4).alloc (nr_ _) _).alloc (by simp) _
          have c5:Blk w5 (w4.heap.size+1) 227 [ptr w4.heap.size]:=by rw [<- hw5];exact Blk.newR _ _ [ptr w4.heap.size] _ (by simp)
          have l5:Blk w5 w4.heap.size 230 [.int .i64 id,.int .i64 id,.int .i64 ep,.int .i64 rd,.string md,.int .i64 qr,.int .i64 qb,.slice aq qw.length cq,.int .i64 tr,.slice aw tw.length cw,.slice ah th.length ch,.slice at_ ts.length ct,.bool en,.slice an nx.length cn,.string rt,.pointer none]:=by rw [<- hw5];exact (Blk.new w4 _ _).below ((br_ (w4.heap.size+1) _).alloc (by simp) _) (by omega)
          have hB5:=hB4.trans (b5.mono hB4.size)
          have lm5:=(Hlm.out.below hB4 (nr_ _)).below b5 (nr_ _)
          have HB5:=a_ hB5
          have HL5:=a_ (HL4.out.trans (b5.mono HL4.out.size))
          have C5:=a_ c5
          have L5:=a_ l5
          have LM5:=a_ lm5
          have hs4:=hB4.size
          clear hB4 k4 HL4 b5 c5 l5 hB5 lm5
          simp only [ptr] at hw5
          go_wp2_with (at_builtin;(try rw [hw5]);refine cP_ w5 rfl _ _ rfl (w.heap.size+2) (.slice ta k tc) (w4.heap.size+1) k Bs w4.heap.size rfl rfl LM5.out.row C5.out (by omega) (by have:=HB5.out.size;omega) ?_;intro v6 w6 ho6 hg6;obtain ⟨a6,c6,rfl⟩:=aM_ ho6;have k6:=(HK1.out.below HB5.out HK1.out.lt).keptG hg6 (fun q hq=>by have:=(World.ownsRow.lt LM5.out.row q hq).1;omega);have r6:=k6.cell 0;have f6:=k6.frozen 0;simp only [gz_] at r6)
          have hl6:=L5.out.keptG hg6 (fun q hq e=>by
           rcases LM5.out.row.2 with ⟨hv,_⟩ | ⟨g9,cap9,cur9,hv,hbb,hgg,r9⟩
           ·rw [hv] at hq;cases hq
           ·rw [hv] at hq
            simp only [Value.ownBlock,Option.some.injEq] at hq
            rw [hq,e,show w5.heap[w4.heap.size]?=_ from L5.out] at hgg
            simp only [Option.some.injEq,Obj.cells.injEq] at hgg
            exact absurd hgg.2.1 (by decide))
          have lm6:=Hsn.out w5 w6 (.slice a6 (k+1) c6) w4.heap.size (.pointer none) LM5.out hg6 ho6 hl6 (by omega) (.inl ⟨by first | rfl | trivial,rfl⟩)
          have b6:Below (w.heap.size+2) w5 w6:=(br_ _ _).grown hg6 (by have:=HB5.out.size;omega) (fun q hq=>(World.ownsRow.lt LM5.out.row q hq).1)
          have HLM:=a_ (lm6.other (B_ w6 (w.heap.size+1) 0 (.slice a6 (k+1) c6)) (by omega))
          have HKA:=a_ (((HK0.out.below HB5.out HK0.out.lt).below b6 (by omega)).otherC (w.heap.size+1) 0 (.slice a6 (k+1) c6) (by omega))
          have HKB:=a_ (((HK1.out.below HB5.out HK1.out.lt).below b6 (by omega)).setC 0 (.slice a6 (k+1) c6))
          have HLL:=a_ ((HL5.out.trans (b6.mono (by omega))).setCell (p:=⟨w.heap.size+1,0,none⟩) (by show w.heap.size<=w.heap.size+1;omega) (.slice a6 (k+1) c6))
          go_roundw
          case rel=>exact ⟨k+1,(.slice a6 (k+1) c6),Bs ++ [w4.heap.size],by omega,by go_num,hq.out,HLM.out,HKA.out,HKB.out,HLL.out⟩
          case measure=>simp [intOf];omega
         ·exact absurd he (Hrt.out (by first | rfl | trivial) p (by omega) hp)
       ·have hge:decide (pid ≥ id)=true:=by simp;omega
        have hge2:id<=pid:=by omega
        have hneg:Hid (¬ pid < id):=a_ hless
        have hp9:Hid (0 < k):=a_ hposN
        clear hless
        have hf:=a_ (Hno.out (by rw [Hdef.out];rintro ⟨_,_,h,_⟩;exact hneg.out (h hp9.out)))
        clear Hdef Hnx Hno Hby Hsay Hrt Hsn Hrd HA HR
        refine wp_region_quiet_below (by kernel_rfl) (by kernel_rfl) ?_
        repeat (go_big_quiet_step ((go_at_call 190;exact HQ1.out _ _)))
        refine wpQuiet_nil ?_
        intro _ hw'
        obtain ⟨⟨dq,osq⟩,hw''⟩:=hw'
        subst hw''
        have HBW:=a_ (HB1.out dq osq)
        have HL2:=a_ (HL1.out dq osq)
        generalize grow (redrawn w1 dq) osq=w2 at HBW HL2 ⊢
        clear HB1 HKp HL1 HQ1 b1 gf g0 g1 g2 g3 g4 g5 g6 g7 g8 g9 g10 g11 g12 g13
        obtain ⟨t1,t0,u0,-⟩:=Hend.out w2 HBW.out
        have HZ:=a_ ((HL2.out).setCell (p:=⟨w.heap.size,0,none⟩) (nr_ _) (.slice ta k tc))
        clear Hend HK0 HK1
        go_wp2
        refine bodyPost_ret (v:=.tuple #[.agg #[.slice ta k tc],.bool false]) (by simp [results,Tryz.f177,go_sem,t0]) rfl ?_
        exact ⟨ta,k,tc,by rw [hf.out],(fun h=>by rw [hf.out] at h;cases h),HZ.out⟩
     ·have hne:(ep != e0)=true:=by rw [bne_iff_ne];exact he
      have Hne:=a_ he
      clear he Hprev1
      have hf:=a_ (Hno.out (by rw [Hdef.out];rintro ⟨_,h,_⟩;exact Hne.out h))
      clear Hdef Hnx Hno Hby Hsay Hrt Hsn Hrd HA HR
      refine wp_region_quiet_below (by kernel_rfl) (by kernel_rfl) ?_
      repeat (go_big_quiet_step ((go_at_call 190;exact HQ1.out _ _)))
      refine wpQuiet_nil ?_
      intro _ hw'
      obtain ⟨⟨dq,osq⟩,hw''⟩:=hw'
      subst hw''
      have HBW:=a_ (HB1.out dq osq)
      have HL2:=a_ (HL1.out dq osq)
      generalize grow (redrawn w1 dq) osq=w2 at HBW HL2 ⊢
      clear HB1 HKp HL1 HQ1 b1 gf g0 g1 g2 g3 g4 g5 g6 g7 g8 g9 g10 g11 g12 g13
      obtain ⟨t1,t0,u0,-⟩:=Hend.out w2 HBW.out
      have HZ:=a_ ((HL2.out).setCell (p:=⟨w.heap.size,0,none⟩) (nr_ _) (.slice ta k tc))
      clear Hend HK0 HK1
      go_wp2
      refine bodyPost_ret (v:=.tuple #[.agg #[.slice ta k tc],.bool false]) (by simp [results,Tryz.f177,go_sem,t0]) rfl ?_
      exact ⟨ta,k,tc,by rw [hf.out],(fun h=>by rw [hf.out] at h;cases h),HZ.out⟩
   ·have hX:=a_ (bL_ ⟨hsmN,fun i hi=>Hall.out i hi (by omega)⟩)
    obtain rfl:k=l.length:=by omega
    have t1:=HK1.out.cell 0
    have t0:=HK0.out.cell 0
    have u0:=HK0.out.frozen 0
    simp only [gz_] at t0 t1
    have HLM:=a_ ((Hlm.out.other (B_ wr w.heap.size 0 (.slice ta l.length tc)) (by omega)).mono (show w.heap.size<=w.heap.size+2 by omega))
    have HZ:=a_ (hb.setCell (p:=⟨w.heap.size,0,none⟩) (nr_ _) (.slice ta l.length tc))
    clear Hlm HK0 HK1 Hall
    go_wp2
    refine bodyPost_ret (v:=.tuple #[.agg #[.slice ta l.length tc],.bool true]) (by simp [results,Tryz.f177,go_sem,t0]) rfl ?_
    exact ⟨ta,l.length,tc,by rw [hX.out],fun _=>⟨Bs,HLM.out⟩,HZ.out⟩
theorem ek_ (v:Value) (l:List Bk) (w:World) (hr:RdKs w v l) (hl:l.length<=4000000) (hf:∀ b ∈ l,FewK b) (hbd:∀ b ∈ l,-9223372036854775808<=b.tr/\b.tr<=9223372036854775807) :
  Calls Tryz.prog 160 #[v] w fun e w'=>e=.returned (.bool (treeB l))/\Below w.heap.size w w':=by
 have HT:=a_ (hL_ v l w hr hl hf hbd)
 clear hr hf hbd
 go_enter Tryz.func160,Tryz.ntmps160
 go_wp2_with fail
 refine HT.out.mono ?_
 rintro e w1 ⟨ta,tn,tc,rfl,-,hb⟩
 have HB:=a_ (hb.alloc (o:=.cells #[.slice ta tn tc] 221) hb.size)
 go_wp2
 go_ret
 exact ⟨rfl,HB.out⟩
open Go.RowKit
theorem RdKs.parts14 {w:World} {a:Option Addr} {cap:Nat} {l:List Bk} (h:RdKs w (.slice a l.length cap) l) (hl:0 < l.length):∃ b off,a=some ⟨b,off,none⟩/\b < w.heap.size/\∀ i (h:i < l.length),∃ bv,BkAt w b (off+i * 14) l[i] bv/\RdK w l[i] bv:=by
 rcases h with ⟨a',cap',e,rfl,hn⟩ | ⟨b,off,cap',h0,e,h1,h2,h3,h4⟩
 ·simp at hl
 ·simp only [Value.slice.injEq] at e
  exact ⟨b,off,e.1,h3,h4⟩
def oddB (l:List Bk) (e:Int):Bool:=l.any (fun b=>!decide (b.ep=e))
theorem gP_ {l:List Bk} {e:Int} {k:Nat} (hk:k < l.length) (h:¬ l[k].ep=e):oddB l e=true:=by
 unfold oddB
 rw [List.any_eq_true]
 exact ⟨l[k],List.getElem_mem hk,by simp [h]⟩
theorem fF_ {l:List Bk} {e:Int} (h:∀ j (hj:j < l.length),l[j].ep=e):oddB l e=false:=by
 unfold oddB
 rw [List.any_eq_false]
 intro x hx
 obtain ⟨i,hi,rfl⟩:=List.mem_iff_getElem.1 hx
 simp [h i hi]
theorem hA_ (b:Bk) (v:Bv) (d:Int) (B:Nat) (w:World) (hr:RdK w b v) (hB:w.cell? ⟨B,1,none⟩=some (.int .i64 d)) :
  Calls Tryz.prog 157 #[bkV b v,.pointer (some ⟨B,0,none⟩)] w fun e w'=>e=.returned (.bool (!decide (b.ep=d)))/\Below w.heap.size w w':=by
 obtain ⟨aq,cq,aw,cw,ah,ch,at_,ct,an,cn,rfl⟩:=hr.shapes9
 clear hr
 obtain ⟨id,ep,rd,md,qr,qb,qw,tr,tw,th,ts,en,nx,rt⟩:=b
 simp only [bkV]
 obtain ⟨w1,hw1⟩:∃ x,w.alloc (.cells #[.int .i64 id,.int .i64 ep,.int .i64 rd,.string md,.int .i64 qr,.int .i64 qb,.slice aq qw.length cq,.int .i64 tr,.slice aw tw.length cw,.slice ah th.length ch,.slice at_ ts.length ct,.bool en,.slice an nx.length cn,.string rt] 146)=x:=⟨_,rfl⟩
 have b1:Below w.heap.size w w1:=by rw [<- hw1];exact (br_ _ w).alloc (nr_ _) _
 have k1:Blk w1 w.heap.size 146 [.int .i64 id,.int .i64 ep,.int .i64 rd,.string md,.int .i64 qr,.int .i64 qb,.slice aq qw.length cq,.int .i64 tr,.slice aw tw.length cw,.slice ah th.length ch,.slice at_ ts.length ct,.bool en,.slice an nx.length cn,.string rt]:=by rw [<- hw1];exact Blk.new w _ _
 have c1:=k1.cell 1
 simp only [gz_,gs_] at c1
 have e0:=(b1.cell (p:=⟨B,1,none⟩) (World.block_lt_of_cell? w _ hB)).trans hB
 have HB:=a_ b1
 clear b1 k1 hB
 by_cases h:ep=d
 ·rw [decide_eq_true h]
  subst h
  go_enter Tryz.func157,Tryz.ntmps157
  go_wp2
  go_ret
  exact ⟨by first | rfl | simp,HB.out⟩
 ·rw [decide_eq_false h]
  have hq:(ep != d)=true:=by rw [bne_iff_ne];exact h
  clear h
  go_enter Tryz.func157,Tryz.ntmps157
  go_wp2
  go_ret
  exact ⟨by first | rfl | simp,HB.out⟩
theorem gm_ (v:Value) (l:List Bk) (d:Int) (B:Nat) (w:World) (hr:RdKs w v l) (hl:l.length<=4000000) (hB:w.cell? ⟨B,1,none⟩=some (.int .i64 d)) :
  Calls Tryz.prog 178 #[v,.func (.func 157) #[] #[.pointer (some ⟨B,0,none⟩)]] w fun e w'=>(∃ i:Int,e=.returned (.int .i64 i)/\oddB l d=decide (0<=i))/\Below w.heap.size w w':=by
 obtain ⟨a,cap,rfl⟩:=hr.shape
 have Hr:=a_ hr
 have HB:=a_ hB
 have hBl:=World.block_lt_of_cell? w _ hB
 clear hr hB
 go_enter Tryz.func178,Tryz.ntmps178
 go_wp2
 go_loopw [8] (fun iv wr=>∃ k:Nat,k<=l.length/\iv=.int .i64 (k:Int)/\(∀ j (h:j < l.length),j < k->l[j].ep=d)/\Below w.heap.size w wr) (fun iv _=>l.length - (intOf iv).toNat)
 case atStart=>exact ⟨0,Nat.zero_le _,rfl,(fun j _ h=>by omega),br_ _ _⟩
 case round =>
  obtain ⟨k,hk,rfl,hlo,hb⟩:=hrel
  have Hlo:=a_ hlo
  clear hlo
  by_cases hlt:k < l.length
  ·obtain ⟨b,off,rfl,h3,hcell⟩:=Hr.out.parts14 (by omega)
   obtain ⟨lv,hat,hrl⟩:=hcell k hlt
   obtain ⟨c0,c1,c2,c3,c4,c5,c6,c7,c8,c9,c10,c11,c12,c13⟩:=(hat.below hb h3).cells
   have HC:=a_ (hA_ l[k] lv d B wr (hrl.below hb (nr_ _)) ((hb.cell (p:=⟨B,1,none⟩) hBl).trans HB.out))
   have Hsh:=a_ hrl.shapes9
   have hki:(k:Int) < (l.length:Int):=by omega
   have hk0:(0:Int)<=(k:Int):=by omega
   have Hyes:Hid (¬ l[k].ep=d->oddB l d=decide (0<=(k:Int))):=a_ (fun h=>by rw [gP_ hlt h,decide_eq_true (by omega)])
   have Hno:Hid (l[k].ep=d->∀ j (h:j < l.length),j < k+1->l[j].ep=d):=a_ (fun h j hj hjk=>by
    by_cases e:j=k
    ·subst e;exact h
    ·exact Hlo.out j hj (by omega))
   have Hb:=a_ hb
   clear hat hrl hcell hb Hlo
   generalize l[k]=ak at c0 c1 c2 c3 c4 c5 c6 c7 c8 c9 c10 c11 c12 c13 HC Hsh Hyes Hno
   obtain ⟨aq,cq,aw,cw,ah,ch,at_,ct,an,cn,rfl⟩:=Hsh.out
   clear Hsh
   obtain ⟨id,ep,rd,md,qr,qb,qw,tr,tw,th,ts,en,nx,rt⟩:=ak
   simp only [bkV] at c0 c1 c2 c3 c4 c5 c6 c7 c8 c9 c10 c11 c12 c13 HC Hyes Hno
   by_cases hd:ep=d
   ·have Hf:=a_ (Hno.out hd)
    rw [decide_eq_true hd,Bool.not_true] at HC
    clear Hyes Hno hd
    go_wp2_with fail
    refine HC.out.mono ?_
    rintro e w2 ⟨rfl,hb2⟩
    go_wp2
    go_roundw
    case rel=>exact ⟨k+1,by omega,by go_num,Hf.out,Hb.out.trans (hb2.mono Hb.out.size)⟩
    case measure=>simp [intOf];omega
   ·have Hf:=a_ (Hyes.out hd)
    rw [decide_eq_false hd,Bool.not_false] at HC
    clear Hyes Hno hd
    go_wp2_with fail
    refine HC.out.mono ?_
    rintro e w2 ⟨rfl,hb2⟩
    go_wp2
    go_ret
    exact ⟨⟨_,rfl,Hf.out⟩,Hb.out.trans (hb2.mono Hb.out.size)⟩
  ·have Hf:Hid (oddB l d=decide ((0:Int)<=-1)):=a_ (by rw [fF_ (fun j hj=>Hlo.out j hj (by omega))];rfl)
   go_wp2
   go_ret
   exact ⟨⟨_,rfl,Hf.out⟩,hb⟩
theorem hq_ (v:Value) (l:List Bk) (d:Int) (B:Nat) (w:World) (hr:RdKs w v l) (hl:l.length<=4000000) (hB:w.cell? ⟨B,1,none⟩=some (.int .i64 d)) :
  Calls Tryz.prog 161 #[v,.func (.func 157) #[] #[.pointer (some ⟨B,0,none⟩)]] w fun e w'=>e=.returned (.bool (oddB l d))/\Below w.heap.size w w':=by
 obtain ⟨a,c,rfl⟩:=hr.shape
 have HI:=a_ (gm_ _ l d B w hr hl hB)
 clear hr hB
 go_enter Tryz.func161,Tryz.ntmps161
 go_wp2_with fail
 refine HI.out.mono ?_
 rintro e w1 ⟨⟨i,rfl,hi⟩,hb⟩
 have Hi:=a_ hi
 clear hi
 go_wp2
 go_ret
 exact ⟨b_ Hi.out.symm,hb⟩
def epkB (la:List Ac) (l:List Vl) (lt:List Bk) (e be:Int):Bool:=lgB be la && (decide (be=e) && ((decide (l.length=0) || setB l) && (treeB lt && !oddB lt e)))
theorem du_ (nm:ByteArray) (e be rd vd hr hb tr ld:Int) (aA aS aT aW aX aH aV aG aD aP aQ:Option Addr) (nW nX nH nV nG nD nP nQ cA cS cT cW cX cH cV cG cD cP cQ:Nat) (la:List Ac) (l:List Vl) (lt:List Bk) (w:World)
  (hA:RdA w (.slice aA la.length cA) la) (hS:RdV w (.slice aS l.length cS) l) (hT:RdKs w (.slice aT lt.length cT) lt)
  (hla:la.length<=4000000) (hl:l.length<=4000000) (hlt:lt.length<=4000000) (hza:∀ a ∈ la,a.1.size<=maxLen/\a.2.2.2.2.length<=4000000) (hzl:∀ a ∈ l,a.1.size<=maxLen) (hf:∀ b ∈ lt,FewK b) (hbd:∀ b ∈ lt,-9223372036854775808<=b.tr/\b.tr<=9223372036854775807) :
  Calls Tryz.prog 134 #[.agg #[.string nm,.int .i64 e,.int .i64 be,.slice aA la.length cA,.slice aS l.length cS,.slice aT lt.length cT,.int .i64 rd,.int .i64 vd,.int .i64 hr,.int .i64 hb,.slice aW nW cW,.int .i64 tr,.slice aX nX cX,.slice aH nH cH,.int .i64 ld,.slice aV nV cV,.slice aG nG cG,.slice aD nD cD,.slice aP nP cP,.slice aQ nQ cQ]] w fun en w'=>en=.returned (.bool (epkB la l lt e be))/\Below w.heap.size w w':=by
 have hmf:∀ (fn:Fn) (first cap:Array Value) (w:World),(Instr.makeFunc fn first cap).run Tryz.prog w=.ok (.func fn first cap) w:=fun _ _ _ _=>rfl
 obtain ⟨w1,hw1⟩:∃ x,w.alloc (.cells #[.string nm,.int .i64 e,.int .i64 be,.slice aA la.length cA,.slice aS l.length cS,.slice aT lt.length cT,.int .i64 rd,.int .i64 vd,.int .i64 hr,.int .i64 hb,.slice aW nW cW,.int .i64 tr,.slice aX nX cX,.slice aH nH cH,.int .i64 ld,.slice aV nV cV,.slice aG nG cG,.slice aD nD cD,.slice aP nP cP,.slice aQ nQ cQ] 55)=x:=⟨_,rfl⟩
 have b1:Below w.heap.size w w1:=by rw [<- hw1];exact (br_ _ w).alloc (nr_ _) _
 have k1:Blk w1 w.heap.size 55 [.string nm,.int .i64 e,.int .i64 be,.slice aA la.length cA,.slice aS l.length cS,.slice aT lt.length cT,.int .i64 rd,.int .i64 vd,.int .i64 hr,.int .i64 hb,.slice aW nW cW,.int .i64 tr,.slice aX nX cX,.slice aH nH cH,.int .i64 ld,.slice aV nV cV,.slice aG nG cG,.slice aD nD cD,.slice aP nP cP,.slice aQ nQ cQ]:=by rw [<- hw1];exact Blk.new w _ _
 have HL:=a_ (cy_ be (.slice aA la.length cA) la w1 (hA.below b1 (nr_ _)) hla hza)
 have HS:=a_ (fun V (hV:Below w.heap.size w V)=>bA_ (.slice aS l.length cS) l V (hS.below hV (nr_ _)) hl hzl)
 have HT:=a_ (fun V (hV:Below w.heap.size w V)=>ek_ (.slice aT lt.length cT) lt V (hT.below hV (nr_ _)) hlt hf hbd)
 have HO:=a_ (fun V (hV:Below w.heap.size w V) (hB:V.cell? ⟨w.heap.size,1,none⟩=some (.int .i64 e))=>hq_ (.slice aT lt.length cT) lt e w.heap.size V (hT.below hV (nr_ _)) hlt hB)
 have HF:Hid (epkB la l lt e be=(lgB be la && (decide (be=e) && ((decide (l.length=0) || setB l) && (treeB lt && !oddB lt e))))):=a_ rfl
 generalize epkB la l lt e be=X at HF ⊢
 generalize lgB be la=L0 at HF HL
 generalize setB l=S0 at HF HS
 generalize treeB lt=T0 at HF HT
 generalize oddB lt e=O0 at HF HO
 simp only [lgV] at HL
 have x1:=k1.cell 1
 have x2:=k1.cell 2
 have x3:=k1.cell 3
 have x4:=k1.cell 4
 have x5:=k1.cell 5
 simp only [gz_,gs_] at x1 x2 x3 x4 x5
 clear hA hS hT hza hzl hf hbd hla hl hlt
 have B1:=b1
 cases L0
 ·rw [Bool.false_and] at HF
  go_enter Tryz.func134,Tryz.ntmps134
  go_wp2_with (go_at_call 158;refine HL.out.mono ?_;rintro en w2 ⟨rfl,b2⟩;have B2:=B1.trans (b2.mono B1.size);have k2:=k1.below b2 k1.lt;have y2_1:=k2.cell 1;have y2_2:=k2.cell 2;have y2_3:=k2.cell 3;have y2_4:=k2.cell 4;have y2_5:=k2.cell 5;simp only [gz_,gs_] at y2_1 y2_2 y2_3 y2_4 y2_5)
  go_ret
  exact ⟨b_ HF.out.symm,B2⟩
 ·rw [Bool.true_and] at HF
  by_cases h1:be=e
  ·rw [decide_eq_true h1,Bool.true_and] at HF
   have h1i:(be == e)=true:=by rw [beq_iff_eq];exact h1
   clear h1
   by_cases h2:l.length=0
   ·rw [decide_eq_true h2,Bool.true_or,Bool.true_and] at HF
    have h2i:((l.length:Int) == 0)=true:=by rw [beq_iff_eq];omega
    clear h2
    cases T0
    ·rw [Bool.false_and] at HF
     go_enter Tryz.func134,Tryz.ntmps134
     go_wp2_with (first
       | (go_at_call 158;refine HL.out.mono ?_;rintro en w2 ⟨rfl,b2⟩;have B2:=B1.trans (b2.mono B1.size);have k2:=k1.below b2 k1.lt;have y2_1:=k2.cell 1;have y2_2:=k2.cell 2;have y2_3:=k2.cell 3;have y2_4:=k2.cell 4;have y2_5:=k2.cell 5;simp only [gz_,gs_] at y2_1 y2_2 y2_3 y2_4 y2_5)
       | (go_at_call 160;refine (HT.out _ B2).mono ?_;rintro en w4 ⟨rfl,b4⟩;have B4:=B2.trans (b4.mono B2.size);have k4:=k2.below b4 k2.lt;have y4_1:=k4.cell 1;have y4_2:=k4.cell 2;have y4_3:=k4.cell 3;have y4_4:=k4.cell 4;have y4_5:=k4.cell 5;simp only [gz_,gs_] at y4_1 y4_2 y4_3 y4_4 y4_5))
     go_ret
     exact ⟨b_ HF.out.symm,B4⟩
    ·rw [Bool.true_and] at HF
     cases O0
     ·rw [Bool.not_false] at HF
      go_enter Tryz.func134,Tryz.ntmps134
      go_wp2_with (first
        | (go_at_call 158;refine HL.out.mono ?_;rintro en w2 ⟨rfl,b2⟩;have B2:=B1.trans (b2.mono B1.size);have k2:=k1.below b2 k1.lt;have y2_1:=k2.cell 1;have y2_2:=k2.cell 2;have y2_3:=k2.cell 3;have y2_4:=k2.cell 4;have y2_5:=k2.cell 5;simp only [gz_,gs_] at y2_1 y2_2 y2_3 y2_4 y2_5)
        | (go_at_call 160;refine (HT.out _ B2).mono ?_;rintro en w4 ⟨rfl,b4⟩;have B4:=B2.trans (b4.mono B2.size);have k4:=k2.below b4 k2.lt;have y4_1:=k4.cell 1;have y4_2:=k4.cell 2;have y4_3:=k4.cell 3;have y4_4:=k4.cell 4;have y4_5:=k4.cell 5;simp only [gz_,gs_] at y4_1 y4_2 y4_3 y4_4 y4_5)
        | (go_at_call 161;refine (HO.out _ B4 y4_1).mono ?_;rintro en w5 ⟨rfl,b5⟩))
      go_ret
      exact ⟨b_ HF.out.symm,B4.trans (b5.mono B4.size)⟩
     ·rw [Bool.not_true] at HF
      go_enter Tryz.func134,Tryz.ntmps134
      go_wp2_with (first
        | (go_at_call 158;refine HL.out.mono ?_;rintro en w2 ⟨rfl,b2⟩;have B2:=B1.trans (b2.mono B1.size);have k2:=k1.below b2 k1.lt;have y2_1:=k2.cell 1;have y2_2:=k2.cell 2;have y2_3:=k2.cell 3;have y2_4:=k2.cell 4;have y2_5:=k2.cell 5;simp only [gz_,gs_] at y2_1 y2_2 y2_3 y2_4 y2_5)
        | (go_at_call 160;refine (HT.out _ B2).mono ?_;rintro en w4 ⟨rfl,b4⟩;have B4:=B2.trans (b4.mono B2.size);have k4:=k2.below b4 k2.lt;have y4_1:=k4.cell 1;have y4_2:=k4.cell 2;have y4_3:=k4.cell 3;have y4_4:=k4.cell 4;have y4_5:=k4.cell 5;simp only [gz_,gs_] at y4_1 y4_2 y4_3 y4_4 y4_5)
        | (go_at_call 161;refine (HO.out _ B4 y4_1).mono ?_;rintro en w5 ⟨rfl,b5⟩))
      go_ret
      exact ⟨b_ HF.out.symm,B4.trans (b5.mono B4.size)⟩
   ·rw [decide_eq_false h2,Bool.false_or] at HF
    have h2i:((l.length:Int) == 0)=false:=by rw [beq_eq_false_iff_ne];omega
    clear h2
    cases S0
    ·rw [Bool.false_and] at HF
     go_enter Tryz.func134,Tryz.ntmps134
     go_wp2_with (first
       | (go_at_call 158;refine HL.out.mono ?_;rintro en w2 ⟨rfl,b2⟩;have B2:=B1.trans (b2.mono B1.size);have k2:=k1.below b2 k1.lt;have y2_1:=k2.cell 1;have y2_2:=k2.cell 2;have y2_3:=k2.cell 3;have y2_4:=k2.cell 4;have y2_5:=k2.cell 5;simp only [gz_,gs_] at y2_1 y2_2 y2_3 y2_4 y2_5)
       | (go_at_call 159;refine (HS.out _ B2).mono ?_;rintro en w3 ⟨rfl,b3⟩;have B3:=B2.trans (b3.mono B2.size);have k3:=k2.below b3 k2.lt;have y3_1:=k3.cell 1;have y3_2:=k3.cell 2;have y3_3:=k3.cell 3;have y3_4:=k3.cell 4;have y3_5:=k3.cell 5;simp only [gz_,gs_] at y3_1 y3_2 y3_3 y3_4 y3_5))
     go_ret
     exact ⟨b_ HF.out.symm,B3⟩
    ·rw [Bool.true_and] at HF
     cases T0
     ·rw [Bool.false_and] at HF
      go_enter Tryz.func134,Tryz.ntmps134
      go_wp2_with (first
        | (go_at_call 158;refine HL.out.mono ?_;rintro en w2 ⟨rfl,b2⟩;have B2:=B1.trans (b2.mono B1.size);have k2:=k1.below b2 k1.lt;have y2_1:=k2.cell 1;have y2_2:=k2.cell 2;have y2_3:=k2.cell 3;have y2_4:=k2.cell 4;have y2_5:=k2.cell 5;simp only [gz_,gs_] at y2_1 y2_2 y2_3 y2_4 y2_5)
        | (go_at_call 159;refine (HS.out _ B2).mono ?_;rintro en w3 ⟨rfl,b3⟩;have B3:=B2.trans (b3.mono B2.size);have k3:=k2.below b3 k2.lt;have y3_1:=k3.cell 1;have y3_2:=k3.cell 2;have y3_3:=k3.cell 3;have y3_4:=k3.cell 4;have y3_5:=k3.cell 5;simp only [gz_,gs_] at y3_1 y3_2 y3_3 y3_4 y3_5)
        | (go_at_call 160;refine (HT.out _ B3).mono ?_;rintro en w4 ⟨rfl,b4⟩;have B4:=B3.trans (b4.mono B3.size);have k4:=k3.below b4 k3.lt;have y4_1:=k4.cell 1;have y4_2:=k4.cell 2;have y4_3:=k4.cell 3;have y4_4:=k4.cell 4;have y4_5:=k4.cell 5;simp only [gz_,gs_] at y4_1 y4_2 y4_3 y4_4 y4_5))
      go_ret
      exact ⟨b_ HF.out.symm,B4⟩
     ·rw [Bool.true_and] at HF
      cases O0
      ·rw [Bool.not_false] at HF
       go_enter Tryz.func134,Tryz.ntmps134
       go_wp2_with (first
         | (go_at_call 158;refine HL.out.mono ?_;rintro en w2 ⟨rfl,b2⟩;have B2:=B1.trans (b2.mono B1.size);have k2:=k1.below b2 k1.lt;have y2_1:=k2.cell 1;have y2_2:=k2.cell 2;have y2_3:=k2.cell 3;have y2_4:=k2.cell 4;have y2_5:=k2.cell 5;simp only [gz_,gs_] at y2_1 y2_2 y2_3 y2_4 y2_5)
         | (go_at_call 159;refine (HS.out _ B2).mono ?_;rintro en w3 ⟨rfl,b3⟩;have B3:=B2.trans (b3.mono B2.size);have k3:=k2.below b3 k2.lt;have y3_1:=k3.cell 1;have y3_2:=k3.cell 2;have y3_3:=k3.cell 3;have y3_4:=k3.cell 4;have y3_5:=k3.cell 5;simp only [gz_,gs_] at y3_1 y3_2 y3_3 y3_4 y3_5)
         | (go_at_call 160;refine (HT.out _ B3).mono ?_;rintro en w4 ⟨rfl,b4⟩;have B4:=B3.trans (b4.mono B3.size);have k4:=k3.below b4 k3.lt;have y4_1:=k4.cell 1;have y4_2:=k4.cell 2;have y4_3:=k4.cell 3;have y4_4:=k4.cell 4;have y4_5:=k4.cell 5;simp only [gz_,gs_] at y4_1 y4_2 y4_3 y4_4 y4_5)
         | (go_at_call 161;refine (HO.out _ B4 y4_1).mono ?_;rintro en w5 ⟨rfl,b5⟩))
       go_ret
       exact ⟨b_ HF.out.symm,B4.trans (b5.mono B4.size)⟩
      ·rw [Bool.not_true] at HF
       go_enter Tryz.func134,Tryz.ntmps134
       go_wp2_with (first
         | (go_at_call 158;refine HL.out.mono ?_;rintro en w2 ⟨rfl,b2⟩;have B2:=B1.trans (b2.mono B1.size);have k2:=k1.below b2 k1.lt;have y2_1:=k2.cell 1;have y2_2:=k2.cell 2;have y2_3:=k2.cell 3;have y2_4:=k2.cell 4;have y2_5:=k2.cell 5;simp only [gz_,gs_] at y2_1 y2_2 y2_3 y2_4 y2_5)
         | (go_at_call 159;refine (HS.out _ B2).mono ?_;rintro en w3 ⟨rfl,b3⟩;have B3:=B2.trans (b3.mono B2.size);have k3:=k2.below b3 k2.lt;have y3_1:=k3.cell 1;have y3_2:=k3.cell 2;have y3_3:=k3.cell 3;have y3_4:=k3.cell 4;have y3_5:=k3.cell 5;simp only [gz_,gs_] at y3_1 y3_2 y3_3 y3_4 y3_5)
         | (go_at_call 160;refine (HT.out _ B3).mono ?_;rintro en w4 ⟨rfl,b4⟩;have B4:=B3.trans (b4.mono B3.size);have k4:=k3.below b4 k3.lt;have y4_1:=k4.cell 1;have y4_2:=k4.cell 2;have y4_3:=k4.cell 3;have y4_4:=k4.cell 4;have y4_5:=k4.cell 5;simp only [gz_,gs_] at y4_1 y4_2 y4_3 y4_4 y4_5)
         | (go_at_call 161;refine (HO.out _ B4 y4_1).mono ?_;rintro en w5 ⟨rfl,b5⟩))
       go_ret
       exact ⟨b_ HF.out.symm,B4.trans (b5.mono B4.size)⟩
  ·rw [decide_eq_false h1,Bool.false_and] at HF
   have h1i:(be == e)=false:=by rw [beq_eq_false_iff_ne];exact h1
   clear h1
   go_enter Tryz.func134,Tryz.ntmps134
   go_wp2_with (go_at_call 158;refine HL.out.mono ?_;rintro en w2 ⟨rfl,b2⟩;have B2:=B1.trans (b2.mono B1.size);have k2:=k1.below b2 k1.lt;have y2_1:=k2.cell 1;have y2_2:=k2.cell 2;have y2_3:=k2.cell 3;have y2_4:=k2.cell 4;have y2_5:=k2.cell 5;simp only [gz_,gs_] at y2_1 y2_2 y2_3 y2_4 y2_5)
   go_ret
   exact ⟨b_ HF.out.symm,B2⟩
end Go.Proofs.YtamljhcmiphdgaaGreatDoor
