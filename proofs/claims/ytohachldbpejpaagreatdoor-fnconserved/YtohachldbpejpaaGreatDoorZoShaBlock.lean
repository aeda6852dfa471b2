/- A block. -/
import Derived.Test.YtohachldbpejpaaGreatDoorZoLgDoS
import Derived.Test.YtohachldbpejpaaGreatDoorZoShaTurn
import Derived.Test.YtohachldbpejpaaGreatDoorZoIntKeep
set_option maxRecDepth 20000
set_option maxHeartbeats 1000000
namespace Go.Proofs.YtohachldbpejpaaGreatDoor
open Go.RowKit
set_option linter.unusedVariables false
theorem wrap_tmod (i d:Nat) (h:d<=i) (h64:i < 64):(IntKind.i64.wrap ((i:Int) - (d:Int))).tmod 16=(((i - d) % 16:Nat):Int):=by
  have e:IntKind.i64.wrap ((i:Int) - (d:Int))=((i - d:Nat):Int):=by
    rw [IntKind.wrap_i64]
    omega
  rw [e]
  rfl
theorem shaRenew_go (g i j0 j7 j15 j2 x0 x7 x15 x2:Nat) (w:World) (h16:16<=i) (h64:i < 64)
    (e0:(i:Int).tmod 16=(j0:Int)) (e7:(IntKind.i64.wrap ((i:Int) - 7)).tmod 16=(j7:Int)) (e15:(IntKind.i64.wrap ((i:Int) - 15)).tmod 16=(j15:Int)) (e2:(IntKind.i64.wrap ((i:Int) - 2)).tmod 16=(j2:Int))
    (l0:(j0:Int) < 16) (l7:(j7:Int) < 16) (l15:(j15:Int) < 16) (l2:(j2:Int) < 16)
    (c0:w.cell? ⟨g,j0,none⟩=some (.int .u32 (x0:Int))) (c7:w.cell? ⟨g,j7,none⟩=some (.int .u32 (x7:Int))) (c15:w.cell? ⟨g,j15,none⟩=some (.int .u32 (x15:Int))) (c2:w.cell? ⟨g,j2,none⟩=some (.int .u32 (x2:Int)))
    (hx15:x15 < 4294967296) (hx2:x2 < 4294967296) (hfz:w.frozen? ⟨g,j0,none⟩=false) :
    Calls Tryz.prog 209 #[.pointer (some ⟨g,0,none⟩),.int .i64 (i:Int)] w fun e w'=>e=.returned (.tuple #[])/\∃ w1,Sm w w1/\w'=w1.setCell ⟨g,j0,none⟩ (.int .u32 (((x0+(x7+bS0 x15+bS1 x2)) % 4294967296:Nat):Int)):=by
  have hs0:bits .xor .u32 (bits .xor .u32 (rotr 7 x15:Int) (rotr 18 x15:Int)) ((x15:Int) / 8)=((bS0 x15:Nat):Int):=by
    rw [show (x15:Int) / 8=((x15 / 8:Nat):Int) from by omega]
    exact u32_xor3 _ _ _ (rotr_lt _ _) (rotr_lt _ _) (by omega)
  have hs1:bits .xor .u32 (bits .xor .u32 (rotr 17 x2:Int) (rotr 19 x2:Int)) ((x2:Int) / 1024)=((bS1 x2:Nat):Int):=by
    rw [show (x2:Int) / 1024=((x2 / 1024:Nat):Int) from by omega]
    exact u32_xor3 _ _ _ (rotr_lt _ _) (rotr_lt _ _) (by omega)
  go_enter Tryz.func209,Tryz.ntmps209
  go_wp2
  go_quiet (fail)
  go_wp2
  refine region_tail 34 (by kernel_rfl) (by kernel_rfl) ?_
  simp only [List.take_succ_cons,List.take_zero,List.drop_succ_cons,List.drop_zero]
  repeat still_step
  still_call (rotL_7 x15 hx15 _)
  repeat still_step
  still_call (rotL_18 x15 hx15 _)
  repeat still_step
  still_call (rotL_17 x2 hx2 _)
  repeat still_step
  still_call (rotL_19 x2 hx2 _)
  repeat still_step
  refine wpStill_nil ?_
  go_wp2
  refine bodyPost_end (results_none Tryz.results209 _ _ _) rfl ?_
  refine ⟨rfl,w.drewN (nq+1),(Sm.refl w).drewN _,?_⟩
  congr 2
  omega
theorem Tryz.sizeK:(Tryz.prog.info? 288).map (·.size)=some (kC.map uv).length:=by kernel_rfl
structure Gl (w:World):Prop where
  start:w.rangeAt 1 0 (hC.list.map uv)
  consts:w.rangeAt 2 0 (kC.map uv)
  size:1 < w.heap.size/\2 < w.heap.size
theorem Gl.below {B:Nat} {w w':World} (h:Gl w) (hb:Below B w w') (hB:w.heap.size<=B):Gl w' :=
  ⟨rangeAt_below h.start hb (by have:=h.size.1;omega),rangeAt_below h.consts hb (by have:=h.size.2;omega),by have:=h.size.1;have:=hb.size;omega,by have:=h.size.2;have:=hb.size;omega⟩
theorem Ar.eight {w:World} {q a b c d e f g h:Nat} (H:Ar w q (S8.list ⟨a,b,c,d,e,f,g,h⟩)):w.cell? ⟨q,0,none⟩=some (.int .u32 (a:Int))/\w.cell? ⟨q,1,none⟩=some (.int .u32 (b:Int))/\w.cell? ⟨q,2,none⟩=some (.int .u32 (c:Int))/\w.cell? ⟨q,3,none⟩=some (.int .u32 (d:Int))/\w.cell? ⟨q,4,none⟩=some (.int .u32 (e:Int))/\w.cell? ⟨q,5,none⟩=some (.int .u32 (f:Int))/\w.cell? ⟨q,6,none⟩=some (.int .u32 (g:Int))/\w.cell? ⟨q,7,none⟩=some (.int .u32 (h:Int)) :=
  ⟨(H 0 (by simp [S8.list])).1,(H 1 (by simp [S8.list])).1,(H 2 (by simp [S8.list])).1,(H 3 (by simp [S8.list])).1,(H 4 (by simp [S8.list])).1,(H 5 (by simp [S8.list])).1,(H 6 (by simp [S8.list])).1,(H 7 (by simp [S8.list])).1⟩
theorem Tryz.size8:(Tryz.prog.info? 256).map (·.size)=some 8:=by kernel_rfl
theorem vals_uv (s:S8):(s.vals .u32).toList=s.list.map uv:=rfl
theorem vals_one (s:S8):(s.vals .u32).all (·.oneCell')=true:=by simp [S8.vals,Value.oneCell']
theorem store_eight (w:World) (q:Nat) (T:S8) (ht:w.there q 0 8):(storeCells ⟨q,0,none⟩ (T.vals .u32).toList).run Tryz.prog w=.ok () (w.setCells q 0 (T.vals .u32).toList):=by
  have h:=run_storeAt_mid (P:=Tryz.prog) w q 0 256 (T.vals .u32) ht Tryz.size8 (vals_one T)
  simpa [go_sem,show (S8.vals .u32 T).size=8 from rfl] using h
theorem blk_step {w wx w3:World} {st T Tn:S8} {bl:List Nat} {i:Nat} (h0:Ar wx w.heap.size st.list) (h1:Ar wx (w.heap.size+1) (ring bl (i+1))) (h2:Ar wx (w.heap.size+1+1) [0,0,0,0,0,0,0,0]) (h3:Ar wx (w.heap.size+1+1+1) T.list)
    (hsz:w.heap.size+1+1+1 < wx.heap.size) (hb:Below w.heap.size w wx) (hb3:Below wx.drew.heap.size wx.drew w3) (hTn:turns st bl (i+1)=Tn) :
    Ar (w3.setCells (w.heap.size+1+1+1) 0 (Tn.vals .u32).toList) w.heap.size st.list/\Ar (w3.setCells (w.heap.size+1+1+1) 0 (Tn.vals .u32).toList) (w.heap.size+1) (ring bl (i+1))/\Ar (w3.setCells (w.heap.size+1+1+1) 0 (Tn.vals .u32).toList) (w.heap.size+1+1) [0,0,0,0,0,0,0,0]/\Ar (w3.setCells (w.heap.size+1+1+1) 0 (Tn.vals .u32).toList) (w.heap.size+1+1+1) (turns st bl (i+1)).list/\w.heap.size+1+1+1 < (w3.setCells (w.heap.size+1+1+1) 0 (Tn.vals .u32).toList).heap.size/\Below w.heap.size w (w3.setCells (w.heap.size+1+1+1) 0 (Tn.vals .u32).toList):=by
  have hdr:Sm wx wx.drew:=(Sm.refl wx).drew
  have hs3:=hb3.size
  have hs0:wx.drew.heap.size=wx.heap.size:=rfl
  have hbb:Below w.heap.size w w3:=hb.drew.trans (hb3.mono (by omega))
  have hbc:Below w.heap.size w (w3.setCells (w.heap.size+1+1+1) 0 (Tn.vals .u32).toList):=below_setCells hbb _ (by omega) _ _
  have hbd:=(below_setCells (Below.refl (w.heap.size+1) w3) (w.heap.size+1+1+1) (by omega) (Tn.vals .u32).toList 0).size
  refine ⟨((h0.sm hdr).below hb3 (by omega)).setsOther _ _ _ (by omega),((h1.sm hdr).below hb3 (by omega)).setsOther _ _ _ (by omega),((h2.sm hdr).below hb3 (by omega)).setsOther _ _ _ (by omega),?_,by omega,hbc⟩
  rw [vals_uv,hTn]
  exact ((h3.sm hdr).below hb3 (by omega)).sets _ rfl
theorem shaBlock_any (A B C D E F G H:Nat) (hs:S8.Lt ⟨A,B,C,D,E,F,G,H⟩) (bl:List Nat) (hbl:bl.length=16) (hlt:∀ x ∈ bl,x < 4294967296) (w:World) (hgl:Gl w) :
    Calls Tryz.prog 173 #[.agg #[.int .u32 (A:Int),.int .u32 (B:Int),.int .u32 (C:Int),.int .u32 (D:Int),.int .u32 (E:Int),.int .u32 (F:Int),.int .u32 (G:Int),.int .u32 (H:Int)],.agg (bl.map uv).toArray] w fun e w'=>e=.returned (.agg ((blockS ⟨A,B,C,D,E,F,G,H⟩ bl).vals .u32))/\Below w.heap.size w w':=by
  obtain ⟨ws,hws⟩:∃ ws,(bl.map uv).toArray=ws:=⟨_,rfl⟩
  have Hws:=hide hws
  rw [hws]
  clear hws
  have Hgl:=hide hgl
  clear hgl
  obtain ⟨st,hst⟩:∃ st:S8,(⟨A,B,C,D,E,F,G,H⟩:S8)=st:=⟨_,rfl⟩
  have Hst:=hide hst
  have hs':=hs
  rw [hst] at hs' ⊢
  clear hst
  obtain ⟨KL,hKL⟩:∃ KL,kC.map uv=KL:=⟨_,rfl⟩
  have HKL:=hide hKL
  have hKi:∀ i,i < 64->KL.toArray[i]?=some (.int .u32 ((kC.getD i 0:Nat):Int)):=by
    intro i hi
    rw [<- hKL]
    have:i < kC.length:=hi
    simp [this,uv]
  have HKi:=hide hKi
  clear hKi
  go_enter Tryz.func173,Tryz.ntmps173
  go_wp2_with (refine wpList_load_mid rfl _ _ rfl 2 0 rfl KL _ (by rw [<- HKL.out];exact rangeAt_below Hgl.out.consts (((((Below.refl w.heap.size w).alloc (Nat.le_refl _) _).alloc (by simp) _).alloc (by simp;omega) _).alloc (by simp;omega) _) (by have:=Hgl.out.size.2;omega)) Tryz.underlying288 rfl (by rw [<- HKL.out];exact Tryz.sizeK) ?_)
  clear hKL
  go_loopw [11] (fun iv wr=>∃ i:Nat,i<=64/\iv=.int .i64 (i:Int)/\Ar wr w.heap.size st.list/\Ar wr (w.heap.size+1) (ring bl i)/\Ar wr (w.heap.size+1+1) [0,0,0,0,0,0,0,0]/\Ar wr (w.heap.size+1+1+1) (turns st bl i).list/\w.heap.size+1+1+1 < wr.heap.size/\Below w.heap.size w wr) (fun iv _=>64 - (intOf iv).toNat)
  case atStart =>
    refine ⟨0,by omega,rfl,?_,?_,?_,?_,?_,?_⟩
    · exact (((Ar.new w _ st.list _ _ (by rw [<- Hst.out];rfl) rfl).alloc (by simp) _).alloc (by simp;omega) _).alloc (by simp;omega) _
    · rw [ring_zero bl hbl]
      exact ((Ar.new _ _ bl _ _ Hws.out.symm (by simp)).alloc (by simp) _).alloc (by simp) _
    · exact (Ar.new _ _ _ _ _ rfl (by simp)).alloc (by simp) _
    · exact Ar.new _ _ _ _ _ (by rw [<- Hst.out];rfl) (by simp)
    · simp
    · exact ((((Below.refl w.heap.size w).alloc (Nat.le_refl _) _).alloc (by simp) _).alloc (by simp;omega) _).alloc (by simp;omega) _
  case round =>
    obtain ⟨i,hi,rfl,ha0,ha1,ha2,ha3,hsz,hb⟩:=hrel
    by_cases hi64:i < 64
    · have hli:(i:Int) < 64:=by omega
      have hk:∀ w,(Instr.index 288 (.agg KL.toArray) (.int .i64 (i:Int))).run Tryz.prog w=.ok (.int .u32 ((kC.getD i 0:Nat):Int)) w:=fun w=>run_index_array _ w _ _ _ _ _ i hi64 Tryz.underlying288 (fun _=>by simp [go_sem]) (fun _=>by simp [go_sem]) _ (HKi.out i hi64)
      have Hkm:=hide (turn_mod (turns st bl i) (kC.getD i 0+W bl i))
      have HTn:=hide (show turns st bl (i+1)=turn (turns st bl i) (kC.getD i 0+W bl i) from rfl)
      have hklt:kC.getD i 0 < 4294967296:=by
        have:i < kC.length:=hi64
        simpa [this] using kC_lt i this
      have hTl:=turns_lt st bl hs' i
      obtain ⟨k,hkk⟩:∃ k,kC.getD i 0=k:=⟨_,rfl⟩
      rw [hkk] at hk Hkm HTn hklt
      clear hkk
      generalize hTT:turns st bl i=T at ha3 hTl Hkm HTn
      clear hTT
      obtain ⟨a,b,c,d,e,f,g,h⟩:=T
      obtain ⟨j0,ej0⟩:∃ j,i % 16=j:=⟨_,rfl⟩
      have e0:(i:Int).tmod 16=(j0:Int):=by rw [<- ej0];rfl
      have l0:(j0:Int) < 16:=by omega
      have hj0:j0 < 16:=by omega
      by_cases h16:16<=i
      · have c0:=(ha1 j0 (by rw [ring_len];omega)).1
        have c7:=(ha1 ((i - 7) % 16) (by rw [ring_len];omega)).1
        have c15:=(ha1 ((i - 15) % 16) (by rw [ring_len];omega)).1
        have c2:=(ha1 ((i - 2) % 16) (by rw [ring_len];omega)).1
        rw [ring_at,<- ej0,ix_here i h16] at c0
        rw [ring_at,ix_back i 7 h16 (by omega) (by omega)] at c7
        rw [ring_at,ix_back i 15 h16 (by omega) (by omega)] at c15
        rw [ring_at,ix_back i 2 h16 (by omega) (by omega)] at c2
        have Hrn:=hide (shaRenew_go (w.heap.size+1) i (i % 16) ((i - 7) % 16) ((i - 15) % 16) ((i - 2) % 16) _ _ _ _ wr h16 hi64 rfl (wrap_tmod i 7 (by omega) hi64) (wrap_tmod i 15 (by omega) hi64) (wrap_tmod i 2 (by omega) hi64) (by omega) (by omega) (by omega) (by omega) c0 c7 c15 c2 (W_lt bl hlt _) (W_lt bl hlt _) ((ha1 (i % 16) (by rw [ring_len];omega)).2))
        rw [<- W_next bl i h16,ej0] at Hrn
        have HA1':=hide (ring_next bl i h16 ▸ ha1.set (i % 16) (W bl i) (by rw [ring_len];omega))
        clear c0 c7 c15 c2
        have h16i:(16:Int)<=(i:Int):=by omega
        go_wp2_with fail
        refine Hrn.out.mono ?_
        rintro er w2 ⟨rfl,w1,hsm,hw2⟩
        have HA0:Hid (Ar w2 w.heap.size st.list):=hide (by rw [hw2];exact (ha0.sm hsm).setOther _ _ (by simp))
        have HA1:Hid (Ar w2 (w.heap.size+1) (ring bl (i+1))):=hide (by rw [hw2,ring_next bl i h16,ej0];exact (ha1.sm hsm).set j0 _ (by rw [ring_len];omega))
        have HA2:Hid (Ar w2 (w.heap.size+1+1) [0,0,0,0,0,0,0,0]):=hide (by rw [hw2];exact (ha2.sm hsm).setOther _ _ (by simp))
        have HA3:Hid (Ar w2 (w.heap.size+1+1+1) (S8.list ⟨a,b,c,d,e,f,g,h⟩)):=hide (by rw [hw2];exact (ha3.sm hsm).setOther _ _ (by simp))
        have HSZ:Hid (w.heap.size+1+1+1 < w2.heap.size):=hide (by rw [hw2];have:=((hsm 0).setCell (p:=⟨w.heap.size+1,j0,none⟩) (Nat.zero_le _) (.int .u32 (W bl i:Int))).size;omega)
        have HB:Hid (Below w.heap.size w w2):=hide (by rw [hw2];exact (hb.trans (hsm _)).setCell (by simp) _)
        have c1:=(HA1.out j0 (by rw [ring_len];omega)).1
        rw [ring_at,ix_next i j0 h16 hj0,if_pos ej0.symm] at c1
        obtain ⟨x,hx⟩:∃ x,W bl i=x:=⟨_,rfl⟩
        rw [hx] at c1 Hkm HTn
        clear hx hw2 hsm Hrn HA1' ha0 ha1 ha2 ha3 hb hsz
        have hfed:IntKind.u32.wrap ((x:Int)+(k:Int))=(((k+x) % 4294967296:Nat):Int):=by rw [IntKind.wrap_u32'];omega
        obtain ⟨fed,hfd⟩:∃ fed,(k+x) % 4294967296=fed:=⟨_,rfl⟩
        rw [hfd] at hfed Hkm
        clear hfd
        obtain ⟨Tn,htn⟩:∃ Tn,turn ⟨a,b,c,d,e,f,g,h⟩ fed=Tn:=⟨_,rfl⟩
        have hTr:=hide htn
        rw [htn] at Hkm
        clear htn
        obtain ⟨d0,d1,d2,d3,d4,d5,d6,d7⟩:=HA3.out.eight
        go_wp2
        refine region_tail 7 (by kernel_rfl) (by kernel_rfl) ?_
        simp only [List.take_succ_cons,List.take_zero,List.drop_succ_cons,List.drop_zero]
        repeat still_step
        refine wpStill_nil ?_
        go_wp2_with fail
        refine (shaTurn_any a b c d e f g h fed hTl _).mono ?_
        rintro e w3 ⟨rfl,hb3⟩
        rw [hTr.out]
        have hstore:=store_eight w3 (w.heap.size+1+1+1) Tn (show w3.there (w.heap.size+1+1+1) 0 8 from ((HA3.out.sm ((Sm.refl _).drew)).below hb3 HSZ.out).there)
        go_wp2
        go_roundw
        case rel=>exact ⟨i+1,by omega,by go_num,blk_step HA0.out HA1.out HA2.out HA3.out HSZ.out HB.out hb3 (HTn.out.trans Hkm.out.symm)⟩
        case measure=>simp [intOf];omega
      · have HA0:=hide ha0
        have HA1:=hide (show Ar wr (w.heap.size+1) (ring bl (i+1)) from ring_same bl i (by omega) ▸ ha1)
        have HA2:=hide ha2
        have HA3:=hide ha3
        have HSZ:=hide hsz
        have HB:=hide hb
        have c1:=(ha1 j0 (by rw [ring_len];omega)).1
        rw [ring_at,ix_few i j0 (by omega) (by omega),show W bl j0=W bl i from by rw [<- ej0,Nat.mod_eq_of_lt (by omega)]] at c1
        obtain ⟨x,hx⟩:∃ x,W bl i=x:=⟨_,rfl⟩
        rw [hx] at c1 Hkm HTn
        clear hx
        clear hsz
        have hfed:IntKind.u32.wrap ((x:Int)+(k:Int))=(((k+x) % 4294967296:Nat):Int):=by rw [IntKind.wrap_u32'];omega
        obtain ⟨fed,hfd⟩:∃ fed,(k+x) % 4294967296=fed:=⟨_,rfl⟩
        rw [hfd] at hfed Hkm
        clear hfd ha0 ha1 ha2 ha3 hb
        obtain ⟨Tn,htn⟩:∃ Tn,turn ⟨a,b,c,d,e,f,g,h⟩ fed=Tn:=⟨_,rfl⟩
        have hTr:=hide htn
        rw [htn] at Hkm
        clear htn
        obtain ⟨d0,d1,d2,d3,d4,d5,d6,d7⟩:=HA3.out.eight
        go_wp2
        refine region_tail 7 (by kernel_rfl) (by kernel_rfl) ?_
        simp only [List.take_succ_cons,List.take_zero,List.drop_succ_cons,List.drop_zero]
        repeat still_step
        refine wpStill_nil ?_
        go_wp2_with fail
        refine (shaTurn_any a b c d e f g h fed hTl _).mono ?_
        rintro e w3 ⟨rfl,hb3⟩
        rw [hTr.out]
        have hstore:=store_eight w3 (w.heap.size+1+1+1) Tn (show w3.there (w.heap.size+1+1+1) 0 8 from ((HA3.out.sm ((Sm.refl _).drew)).below hb3 HSZ.out).there)
        go_wp2
        go_roundw
        case rel=>exact ⟨i+1,by omega,by go_num,blk_step HA0.out HA1.out HA2.out HA3.out HSZ.out HB.out hb3 (HTn.out.trans Hkm.out.symm)⟩
        case measure=>simp [intOf];omega
    · have e64:i=64:=by omega
      rw [e64] at ha3
      clear ha1
      have HA0:=hide ha0
      have HA2:=hide ha2
      have HA3:=hide ha3
      have HSZ:=hide hsz
      have HB:=hide hb
      clear ha0 ha2 ha3 hsz hb hi e64
      generalize hT:turns st bl 64=T at HA3
      have HT:=hide hT
      clear hT
      go_wp2
      go_loopw [28] (fun kv wr2=>∃ k:Nat,k<=8/\kv=.int .i64 (k:Int)/\Ar wr2 w.heap.size st.list/\Ar wr2 (w.heap.size+1+1) [0,0,0,0,0,0,0,0]/\Ar wr2 (w.heap.size+1+1+1) (partW T st k)/\w.heap.size+1+1+1 < wr2.heap.size/\Below w.heap.size w wr2) (fun kv _=>8 - (intOf kv).toNat)
      case atStart=>exact ⟨0,by omega,rfl,HA0.out,HA2.out,by rw [partW_zero];exact HA3.out,HSZ.out,HB.out⟩
      case round =>
        clear HA0 HA2 HA3 HSZ HB
        obtain ⟨k,hk,rfl,ha0,ha2,ha3,hsz,hb⟩:=hrel
        have HA0:=hide ha0
        have HA2:=hide ha2
        have HA3:=hide ha3
        have HSZ:=hide hsz
        have HB:=hide hb
        clear hsz hb
        by_cases hk8:k < 8
        · have hki:(k:Int) < 8:=by omega
          have c3:=(ha3 k (by rw [partW_len];exact hk8)).1
          have f3:=(ha3 k (by rw [partW_len];exact hk8)).2
          have c0:=(ha0 k hk8).1
          rw [partW_at T st k hk8] at c3
          have Hpn:=hide (partW_next T st k hk8)
          generalize T.list[k]'hk8=xk at c3 Hpn
          generalize st.list[k]'hk8=yk at c0 Hpn
          have hsum:IntKind.u32.wrap ((xk:Int)+(yk:Int))=(((xk+yk) % 4294967296:Nat):Int):=by rw [IntKind.wrap_u32'];omega
          obtain ⟨sk,hsk⟩:∃ sk,(xk+yk) % 4294967296=sk:=⟨_,rfl⟩
          rw [hsk] at hsum Hpn
          clear hsk ha0 ha2 ha3
          go_wp2
          refine region_tail 8 (by kernel_rfl) (by kernel_rfl) ?_
          simp only [List.take_succ_cons,List.take_zero,List.drop_succ_cons,List.drop_zero]
          repeat still_step
          refine wpStill_nil ?_
          go_wp2
          go_roundw
          case rel=>exact ⟨k+1,by omega,by go_num,(HA0.out.setOther _ _ (by simp;omega)).sm (Sm.refl _).drew,(HA2.out.setOther _ _ (by simp)).sm (Sm.refl _).drew,by rw [Hpn.out];exact (HA3.out.set k sk (by rw [partW_len];exact hk8)).sm (Sm.refl _).drew,Nat.lt_of_lt_of_le HSZ.out ((Below.refl 0 wr).setCell (p:=⟨w.heap.size+1+1+1,k,none⟩) (Nat.zero_le _) (.int .u32 (sk:Int))).size,(HB.out.setCell (by simp;omega) _).drew⟩
          case measure=>simp [intOf];omega
        · have e8:k=8:=by omega
          subst e8
          have hfin:blockS st bl=addS T st:=by unfold blockS;rw [HT.out]
          rw [partW_full] at ha3
          have Hfin:=hide hfin
          clear hfin HA3 ha0
          generalize addS T st=Rr at ha3 Hfin
          obtain ⟨pa,pb,pc,pd,pe,pf,pg,ph⟩:=Rr
          obtain ⟨d0,d1,d2,d3,d4,d5,d6,d7⟩:=ha3.eight
          obtain ⟨z0,z1,z2,z3,z4,z5,z6,z7⟩:=Ar.eight (a:=0) (b:=0) (c:=0) (d:=0) (e:=0) (f:=0) (g:=0) (h:=0) ha2
          have q0:=(ha2 0 (by simp)).2
          have q1:=(ha2 1 (by simp)).2
          have q2:=(ha2 2 (by simp)).2
          have q3:=(ha2 3 (by simp)).2
          have q4:=(ha2 4 (by simp)).2
          have q5:=(ha2 5 (by simp)).2
          have q6:=(ha2 6 (by simp)).2
          have q7:=(ha2 7 (by simp)).2
          clear ha2 ha3
          go_wp2
          refine bodyPost_ret (v:=.agg #[.int .u32 (pa:Int),.int .u32 (pb:Int),.int .u32 (pc:Int),.int .u32 (pd:Int),.int .u32 (pe:Int),.int .u32 (pf:Int),.int .u32 (pg:Int),.int .u32 (ph:Int)]) (by simp [results,Tryz.results173,go_sem,z0,z1,z2,z3,z4,z5,z6,z7]) rfl ⟨?_,?_⟩
          · rw [Hfin.out];rfl
          · exact (((((((HB.out.setCell (by simp;omega) _).setCell (by simp;omega) _).setCell (by simp;omega) _).setCell (by simp;omega) _).setCell (by simp;omega) _).setCell (by simp;omega) _).setCell (by simp;omega) _).setCell (by simp;omega) _
end Go.Proofs.YtohachldbpejpaaGreatDoor
