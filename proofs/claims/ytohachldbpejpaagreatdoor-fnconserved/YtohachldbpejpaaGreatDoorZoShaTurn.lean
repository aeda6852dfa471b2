/- One turn. -/
import Derived.Test.YtohachldbpejpaaGreatDoorZoPadSpec
import Derived.Laws.CopyOwn
import Derived.Test.YtohachldbpejpaaGreatDoorZoShaBe
import Derived.Deep.RegionWith
set_option maxRecDepth 20000
set_option maxHeartbeats 1000000
namespace Go.Proofs.YtohachldbpejpaaGreatDoor
open Go.RowKit
set_option linter.unusedVariables false
theorem whole_is (n:Nat):n+1+padZ n+8=(n+72) / 64 * 64:=by unfold padZ;omega
theorem OwnB.block {base:Nat} {w:World} {g:Nat} {l:List UInt8} (h:OwnB base w (.slice (some ⟨g,0,none⟩) l.length l.length) l):w.heap[g]?=some (.cells (l.map cb).toArray 5 (0,0)):=by
  rcases h.2 with ⟨hv,_⟩ | ⟨g',cap,cur,hv,hb,hg,hnc,hcm,hcs,ht⟩
  · simp at hv
  · simp only [Value.slice.injEq,Option.some.injEq,Addr.mk.injEq,and_true,true_and] at hv
    obtain ⟨rfl,rfl⟩:=hv
    rw [hg,<- ht,List.take_of_length_le (by simp [hcs])]
theorem OwnB.ofBlock {base:Nat} {w:World} {g n:Nat} {l:List UInt8} (hn:l.length=n) (hb:base<=g) (hm:n<=maxLen) (h:w.heap[g]?=some (.cells (l.map cb).toArray 5 (0,0))):OwnB base w (.slice (some ⟨g,0,none⟩) n n) l:=by
  subst hn
  exact ⟨by simp,.inr ⟨g,l.length,_,rfl,hb,h,Nat.le_refl _,hm,by simp,by rw [Nat.mul_one];exact List.take_of_length_le (by simp)⟩⟩
theorem OwnB.put {base:Nat} {w:World} {g n cap:Nat} {l:List UInt8} (h:OwnB base w (.slice (some ⟨g,0,none⟩) n cap) l) (hn:l.length=n) (k:Nat) (c:UInt8):OwnB base (w.setCell ⟨g,k,none⟩ (.int .u8 (c.toNat:Int))) (.slice (some ⟨g,0,none⟩) n cap) (l.set k c):=by
  subst hn
  have h1:=(World.ownsRow.stored h k (cb c)).1
  unfold OwnB
  rw [List.length_set,List.map_set]
  exact h1
theorem OwnB.cellAt' {base:Nat} {w:World} {g n cap:Nat} {l:List UInt8} (h:OwnB base w (.slice (some ⟨g,0,none⟩) n cap) l) (hn:l.length=n) (k:Nat) (hk:k < l.length):w.cell? ⟨g,k,none⟩=some (.int .u8 (l[k].toNat:Int))/\w.frozen? ⟨g,k,none⟩=false:=by
  subst hn
  refine ⟨?_,World.ownsRow.frozenAt h k⟩
  have:=World.ownsRow.cellAt h k (by simpa using hk)
  rw [this]
  simp [hk,cb]
theorem RdB.src {w:World} {av:Option Addr} {cv:Nat} {l:List UInt8} (h:RdB w (.slice av l.length cv) l) (h0:0 < (l.map cb).length):∃ ad,av=some ad/\∀ j u,(l.map cb)[j]?=some u->w.cell? (ad.add j)=some u:=by
  rcases h with ⟨a,cap,hv,rfl,-⟩ | ⟨b,off,cap,hne,hv,h1,h2,h3,h4⟩
  · simp at h0
  · simp only [Value.slice.injEq,true_and] at hv
    obtain ⟨rfl,rfl⟩:=hv
    refine ⟨_,rfl,?_⟩
    intro j u hj
    have hj':j < l.length:=by have:=(List.getElem?_eq_some_iff.1 hj).1;simpa using this
    have ea:(⟨b,off,none⟩:Addr).add j=⟨b,off+j,none⟩:=by
      by_cases hz:j=0
      · subst hz;simp [Addr.add]
      · simp [Addr.add,hz]
    rw [ea,h4 j hj']
    simp [hj',cb] at hj
    rw [<- hj]
theorem RdB.src' {w w1:World} {av:Option Addr} {cv n:Nat} {l:List UInt8} (h:RdB w (.slice av n cv) l) (hn:l.length=n) (hb:Below w.heap.size w w1) (h0:0 < (l.map cb).length):∃ ad,av=some ad/\∀ j u,(l.map cb)[j]?=some u->w1.cell? (ad.add j)=some u:=by
  subst hn
  exact RdB.src (h.below hb (Nat.le_refl _)) h0
theorem Tryz.sizeU8:(Tryz.prog.info? 5).map (·.size)=some 1:=by kernel_rfl
def padI (l:List UInt8) (i:Nat):List UInt8:=(l ++ 128 :: List.replicate (padZ l.length) 0) ++ (List.replicate (8 - i) 0 ++ (be8 (8 * l.length)).drop (8 - i))
theorem padI_len (l:List UInt8) (i:Nat) (h:i<=8):(padI l i).length=l.length+1+padZ l.length+8:=by simp [padI,be8_len];omega
theorem padI_full (l:List UInt8):padI l 8=padB l:=by simp [padI,padB]
theorem padI_zero (l:List UInt8) (N:Nat) (hN:l.length+1+padZ l.length+8=N):(l ++ List.replicate (N - l.length) 0).set l.length 128=padI l 0:=by
  rw [show N - l.length=(padZ l.length+8)+1 from by omega,List.replicate_succ,List.set_append_right _ _ (Nat.le_refl _),Nat.sub_self,List.set_cons_zero]
  have:(be8 (8 * l.length)).drop 8=[]:=List.drop_eq_nil_of_le (by rw [be8_len];omega)
  simp [padI,this,<- List.replicate_append_replicate]
theorem tail_set (D:List UInt8) (hD:D.length=8) (i:Nat) (h:i < 8):(List.replicate (8 - i) 0 ++ D.drop (8 - i)).set (7 - i) (D[7 - i]'(by omega))=List.replicate (8 - (i+1)) 0 ++ D.drop (8 - (i+1)):=by
  rw [show 8 - i=(7 - i)+1 from by omega,show 8 - (i+1)=7 - i from by omega,List.replicate_succ',List.append_assoc,List.set_append_right _ _ (by simp)]
  simp only [List.length_replicate,Nat.sub_self,List.singleton_append,List.set_cons_zero]
  rw [<- List.drop_eq_getElem_cons]
theorem padI_next (l:List UInt8) (i N:Nat) (h:i < 8) (hN:l.length+1+padZ l.length+8=N):padI l (i+1)=(padI l i).set (N - 1 - i) (UInt8.ofNat (8 * l.length / 2 ^ (8 * i) % 256)):=by
  have e:=tail_set (be8 (8 * l.length)) (be8_len _) i h
  rw [be8_at (8 * l.length) (7 - i) (by omega),show 56 - 8 * (7 - i)=8 * i from by omega] at e
  unfold padI
  have hq:(l ++ 128 :: List.replicate (padZ l.length) (0:UInt8)).length=l.length+1+padZ l.length:=by simp;omega
  rw [List.set_append_right _ _ (by rw [hq];omega),hq,show N - 1 - i - (l.length+1+padZ l.length)=7 - i from by omega,e]
theorem copied (l:List UInt8) (N:Nat) (h:l.length<=N):splice (List.replicate N (Value.int .u8 0)) 0 (l.map cb)=(l ++ List.replicate (N - l.length) 0).map cb:=by
  simp [splice,cb]
theorem made_own {base:Nat} {w:World} {g N:Nat} (h:w.ownsRow base 5 1 (.slice (some ⟨g,0,none⟩) N N) N (madeCells (Value.int IntKind.u8 0).cells (N * 1)).toList):w.heap[g]?=some (.cells (List.replicate N (Value.int .u8 0)).toArray 5 (0,0)):=by
  have e:(madeCells (Value.int IntKind.u8 0).cells (N * 1)).toList=List.replicate N (Value.int .u8 0):=by
    rw [Nat.mul_one];exact toList_madeCells_one _ _
  rw [e] at h
  have h':OwnB base w (.slice (some ⟨g,0,none⟩) (List.replicate N (0:UInt8)).length (List.replicate N (0:UInt8)).length) (List.replicate N 0):=by
    simpa [OwnB,cb] using h
  simpa [cb] using h'.block
theorem own_cong {base:Nat} {w:World} {p:Addr} {v:Value} {l:List UInt8} {x y:Int} (h:OwnB base (w.setCell p (.int .u8 x)) v l) (e:y=x):OwnB base (w.setCell p (.int .u8 y)) v l:=e ▸ h
theorem copy_own {ops:Array Oper} {rest:List Oper} {o:Oper} {a:Act} {Q:Exit->Act->World->Prop} (w w0:World) (hgd:o.guard=none) (d s:Operand)
    (ho:o.op=.call { callee:=.builtin .copy,args:=#[d,s],argTypes:=#[22,22] })
    (g N n cv:Nat) (av:Option Addr) (l:List UInt8) (hd:a.eval d=.slice (some ⟨g,0,none⟩) N N) (hs:a.eval s=.slice av n cv) (hn:l.length=n)
    (hblk:w.heap[g]?=some (.cells (List.replicate N (Value.int .u8 0)).toArray 5 (0,0))) (hr:RdB w0 (.slice av n cv) l) (hnN:n<=N) (hNm:N<=maxLen) (hb:Below w0.heap.size w0 w) (hBg:w0.heap.size<=g)
    (h:∀ w',OwnB w0.heap.size w' (.slice (some ⟨g,0,none⟩) N N) (l ++ List.replicate (N - l.length) 0)->Below w0.heap.size w0 w'->wpList Tryz.prog ops Q rest (a.put o.dst (goInt n)) w'):wpList Tryz.prog ops Q (o :: rest) a w:=by
  subst hn
  refine wpList_copy_splice hgd d s _ _ ho 5 Tryz.underlying22 Tryz.sizeU8 _ _ _ _ _ _ hd hs g 0 (List.replicate N (Value.int .u8 0)) 5 hblk (l.map cb) (by rw [List.length_map];exact (Nat.min_eq_left hnN).symm) (fun h0=>⟨rfl,RdB.src' hr rfl hb h0⟩) (by simp;omega) (by intro u hu;obtain ⟨c,_,rfl⟩:=List.mem_map.1 hu;rfl) w0.heap.size w0 hb hBg ?_
  intro w2 hg2 hb2
  have h2:=hg2.out
  rw [copied l N hnN] at h2
  have h3:=h w2 (OwnB.ofBlock (by simp;omega) hBg hNm h2) hb2
  simpa using h3
theorem implPadded_any (v:Value) (l:List UInt8) (w:World) (hr:RdB w v l) (hl:l.length<=4000000) :
    Calls Tryz.prog 172 #[v] w fun e w'=>∃ v',e=.returned v'/\OwnB w.heap.size w' v' (padB l)/\Below w.heap.size w w':=by
  obtain ⟨i0,hi,hz0,hz1,hz2⟩:=info_parts Tryz.infoU8
  obtain ⟨av,cv,hv⟩:=hr.shape
  subst hv
  obtain ⟨n,hn⟩:∃ n,l.length=n:=⟨_,rfl⟩
  obtain ⟨N,hN⟩:∃ N,n+1+padZ n+8=N:=⟨_,rfl⟩
  have hNw:=whole_is n
  have hNn:n+9<=N:=by omega
  have hNm:N<=4000200:=by have:=padZ_lt n;omega
  rw [hn] at hl hr ⊢
  have Hn:=hide hn
  have Hr:=hide hr
  clear hr
  have HN:=hide hN
  rw [hN] at hNw
  have hW:((n:Int)+1+8+64 - 1) / 64 * 64=(N:Int):=by omega
  have hnN:(n:Int) < (N:Int):=by omega
  obtain ⟨M,hM⟩:∃ M,8 * n=M:=⟨_,rfl⟩
  have hMi:(n:Int) * 8=(M:Int):=by omega
  have hMb:M<=32000000:=by omega
  have HM:=hide hM
  clear hn hN hNw hM
  go_enter Tryz.func172,Tryz.ntmps172
  go_wp2_with (first
    | (refine wpList_make_full _ rfl _ _ 22 rfl w.heap.size 5 i0 (.int .u8 0) 1 Tryz.underlying22 hi hz0 hz1 .i64 .i64 _ _ N rfl rfl (by omega) (by omega) (by rw [hz2];omega) (by unfold maxLen;omega) (Nat.le_refl _) ?_;intro w1 hown hgrow;have Hblk:=hide (made_own hown);have Hb1:Hid (Below w.heap.size w w1):=hide ((Below.refl _ _).grown hgrow (Nat.le_refl _) (by intro k hk;cases hk));clear hown hgrow)
    | (refine copy_own _ w (by rfl) _ _ (by rfl) w.heap.size N n cv av l (by rfl) (by rfl) Hn.out Hblk.out Hr.out (by omega) (by unfold maxLen;omega) Hb1.out (Nat.le_refl _) ?_;intro w2 ho2 hb2;have Ho2:=hide ho2;have Hb2:=hide hb2;have hlen2:(l ++ List.replicate (N - l.length) (0:UInt8)).length=N:=(by have:=Hn.out;simp;omega);have hc2:=(ho2.cellAt' hlen2 n (by omega)).1;have hf2:=(ho2.cellAt' hlen2 n (by omega)).2;clear ho2 hb2))
  have Ho3:Hid (OwnB w.heap.size (w2.setCell ⟨w.heap.size,n,none⟩ (.int .u8 128)) (.slice (some ⟨w.heap.size,0,none⟩) N N) (padI l 0)):=hide (by have h:=Ho2.out.put hlen2 n 128;rw [<- Hn.out,padI_zero l N (by rw [Hn.out];exact HN.out),Hn.out] at h;exact h)
  have Hb3:Hid (Below w.heap.size w (w2.setCell ⟨w.heap.size,n,none⟩ (.int .u8 128))):=hide (Hb2.out.setCell (Nat.le_refl _) _)
  clear Ho2 Hb2 hc2 hf2 Hb1 Hblk hlen2
  go_loopw [30] (fun iv wr=>∃ i:Nat,i<=8/\iv=.int .i64 (i:Int)/\OwnB w.heap.size wr (.slice (some ⟨w.heap.size,0,none⟩) N N) (padI l i)/\Below w.heap.size w wr) (fun iv _=>8 - (intOf iv).toNat)
  case atStart=>exact ⟨0,by omega,rfl,Ho3.out,Hb3.out⟩
  case round =>
    clear Ho3 Hb3
    obtain ⟨i,hi8,rfl,ho,hb⟩:=hrel
    have hlenI:(padI l i).length=N:=by rw [padI_len l i hi8,Hn.out];exact HN.out
    by_cases hlt:i < 8
    · have hii:(i:Int) < 8:=by omega
      obtain ⟨K,hK⟩:∃ K,N - 1 - i=K:=⟨_,rfl⟩
      have hKN:(K:Int) < (N:Int):=by omega
      have hcc:=(ho.cellAt' hlenI K (by omega)).1
      have hff:=(ho.cellAt' hlenI K (by omega)).2
      have hnx:=padI_next l i N hlt (by rw [Hn.out];exact HN.out)
      rw [Hn.out,HM.out,hK] at hnx
      have Hput:=hide (ho.put hlenI K (UInt8.ofNat (M / 2 ^ (8 * i) % 256)))
      rw [<- hnx] at Hput
      have Hcb:=hide (byte_div M (2 ^ (8 * i)))
      have Hb:=hide hb
      generalize UInt8.ofNat (M / 2 ^ (8 * i) % 256)=C at Hput Hcb
      generalize (padI l i)[K]'(by omega)=old at hcc
      clear ho hb hnx hlenI
      rcases (show i=0\/i=1\/i=2\/i=3\/i=4\/i=5\/i=6\/i=7 from by omega) with rfl | rfl | rfl | rfl | rfl | rfl | rfl | rfl
      · have hcb:(M:Int) / 1 % 256=((C.toNat:Nat):Int):=Hcb.out
        have hix:(N:Int) - 1 - 0=(K:Int):=by omega
        clear Hcb
        go_wp2
        exact ⟨⟨1,by omega,rfl,own_cong Hput.out (by omega),Hb.out.setCell (Nat.le_refl _) _⟩,by simp [intOf]⟩
      · have hcb:(M:Int) / 256 % 256=((C.toNat:Nat):Int):=Hcb.out
        have hix:(N:Int) - 1 - 1=(K:Int):=by omega
        clear Hcb
        go_wp2
        exact ⟨⟨2,by omega,rfl,own_cong Hput.out (by omega),Hb.out.setCell (Nat.le_refl _) _⟩,by simp [intOf]⟩
      · have hcb:(M:Int) / 65536 % 256=((C.toNat:Nat):Int):=Hcb.out
        have hix:(N:Int) - 1 - 2=(K:Int):=by omega
        clear Hcb
        go_wp2
        exact ⟨⟨3,by omega,rfl,own_cong Hput.out (by omega),Hb.out.setCell (Nat.le_refl _) _⟩,by simp [intOf]⟩
      · have hcb:(M:Int) / 16777216 % 256=((C.toNat:Nat):Int):=Hcb.out
        have hix:(N:Int) - 1 - 3=(K:Int):=by omega
        clear Hcb
        go_wp2
        exact ⟨⟨4,by omega,rfl,own_cong Hput.out (by omega),Hb.out.setCell (Nat.le_refl _) _⟩,by simp [intOf]⟩
      · have hcb:(M:Int) / 4294967296 % 256=((C.toNat:Nat):Int):=Hcb.out
        have hix:(N:Int) - 1 - 4=(K:Int):=by omega
        clear Hcb
        go_wp2
        exact ⟨⟨5,by omega,rfl,own_cong Hput.out (by omega),Hb.out.setCell (Nat.le_refl _) _⟩,by simp [intOf]⟩
      · have hcb:(M:Int) / 1099511627776 % 256=((C.toNat:Nat):Int):=Hcb.out
        have hix:(N:Int) - 1 - 5=(K:Int):=by omega
        clear Hcb
        go_wp2
        exact ⟨⟨6,by omega,rfl,own_cong Hput.out (by omega),Hb.out.setCell (Nat.le_refl _) _⟩,by simp [intOf]⟩
      · have hcb:(M:Int) / 281474976710656 % 256=((C.toNat:Nat):Int):=Hcb.out
        have hix:(N:Int) - 1 - 6=(K:Int):=by omega
        clear Hcb
        go_wp2
        exact ⟨⟨7,by omega,rfl,own_cong Hput.out (by omega),Hb.out.setCell (Nat.le_refl _) _⟩,by simp [intOf]⟩
      · have hcb:(M:Int) / 72057594037927936 % 256=((C.toNat:Nat):Int):=Hcb.out
        have hix:(N:Int) - 1 - 7=(K:Int):=by omega
        clear Hcb
        go_wp2
        exact ⟨⟨8,by omega,rfl,own_cong Hput.out (by omega),Hb.out.setCell (Nat.le_refl _) _⟩,by simp [intOf]⟩
    · have e8:i=8:=by omega
      rw [e8,padI_full] at ho
      have Ho:=hide ho
      have Hb:=hide hb
      clear ho hb hlenI e8
      go_wp2
      go_ret
      exact ⟨_,rfl,Ho.out,Hb.out⟩
theorem shaTurn_out (A B C D E F G H fed:Nat):Ending.returned (.agg #[.int .u32 (((H:Int)+fed+(chN E F G)+(cS1 E)+((majN A B C)+(cS0 A))) % 4294967296),.int .u32 (A:Int),.int .u32 (B:Int),.int .u32 (C:Int),.int .u32 (((D:Int)+(H+fed+(chN E F G)+(cS1 E))) % 4294967296),.int .u32 (E:Int),.int .u32 (F:Int),.int .u32 (G:Int)])=.returned (.agg ((turn ⟨A,B,C,D,E,F,G,H⟩ fed).vals .u32)):=by
  have e1:((H:Int)+fed+(chN E F G)+(cS1 E)+((majN A B C)+(cS0 A))) % 4294967296=(((H+cS1 E+chN E F G+fed+(cS0 A+majN A B C)) % 4294967296:Nat):Int):=by omega
  have e2:((D:Int)+(H+fed+(chN E F G)+(cS1 E))) % 4294967296=(((D+(H+cS1 E+chN E F G+fed)) % 4294967296:Nat):Int):=by omega
  rw [e1,e2]
  rfl
theorem shaTurn_any (A B C D E F G H fed:Nat) (hs:S8.Lt ⟨A,B,C,D,E,F,G,H⟩) (w:World) :
    Calls Tryz.prog 210 #[.agg #[.int .u32 (A:Int),.int .u32 (B:Int),.int .u32 (C:Int),.int .u32 (D:Int),.int .u32 (E:Int),.int .u32 (F:Int),.int .u32 (G:Int),.int .u32 (H:Int)],.int .u32 (fed:Int)] w fun e w'=>e=.returned (.agg ((turn ⟨A,B,C,D,E,F,G,H⟩ fed).vals .u32))/\Below w.heap.size w w':=by
  have hA:A < 4294967296:=hs.a
  have hE:E < 4294967296:=hs.e
  have hch:=u32_ch E F G hs.e hs.f hs.g
  have hmaj:=u32_maj A B C hs.a hs.b hs.c
  have hS1:bits .xor .u32 (bits .xor .u32 (rotr 6 E:Int) (rotr 11 E:Int)) (rotr 25 E:Int)=((cS1 E:Nat):Int):=u32_xor3 _ _ _ (rotr_lt _ _) (rotr_lt _ _) (rotr_lt _ _)
  have hS0:bits .xor .u32 (bits .xor .u32 (rotr 2 A:Int) (rotr 13 A:Int)) (rotr 22 A:Int)=((cS0 A:Nat):Int):=u32_xor3 _ _ _ (rotr_lt _ _) (rotr_lt _ _) (rotr_lt _ _)
  clear hs
  have n6:(-6:Int).natAbs=6:=rfl
  have n11:(-11:Int).natAbs=11:=rfl
  have n25:(-25:Int).natAbs=25:=rfl
  go_enter Tryz.func210,Tryz.ntmps210
  go_wp2
  go_quiet (fail)
  go_wp2
  go_quiet ((refine (rotL_any E hE _ (by decide) _).mono ?_;rintro e wa ⟨rfl,rfl⟩;exact ⟨rfl,_,rfl⟩))
  go_wp2_with fail
  refine (rotL_2 A hA _).mono ?_
  rintro e wa ⟨rfl,rfl⟩
  go_wp2_with fail
  refine (rotL_13 A hA _).mono ?_
  rintro e wa ⟨rfl,rfl⟩
  go_wp2_with fail
  refine (rotL_22 A hA _).mono ?_
  rintro e wa ⟨rfl,rfl⟩
  go_wp2
  refine bodyPost_ret (v:=.agg #[.int .u32 (((H:Int)+fed+(chN E F G)+(cS1 E)+((majN A B C)+(cS0 A))) % 4294967296),.int .u32 (A:Int),.int .u32 (B:Int),.int .u32 (C:Int),.int .u32 (((D:Int)+(H+fed+(chN E F G)+(cS1 E))) % 4294967296),.int .u32 (E:Int),.int .u32 (F:Int),.int .u32 (G:Int)]) (by simp [results,Tryz.results210,go_sem]) rfl ⟨?_,?_⟩
  · exact shaTurn_out A B C D E F G H fed
  · exact ((((((((below_drewN (((Below.refl _ _).alloc (Nat.le_refl _) _).alloc (by simp) _) _).setCell (Nat.le_succ _) _).setCell (Nat.le_succ _) _).setCell (Nat.le_succ _) _).setCell (Nat.le_succ _) _).setCell (Nat.le_succ _) _).setCell (Nat.le_succ _) _).setCell (Nat.le_succ _) _).setCell (Nat.le_succ _) _
end Go.Proofs.YtohachldbpejpaaGreatDoor
