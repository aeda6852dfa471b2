/- The landed code puts an order into a pool. -/
import Derived.Test.YtamljhcmiphdgaaGreatDoorZvInsTx
import Derived.Test.YtamljhcmiphdgaaGreatDoorZvNdPure
set_option maxRecDepth 20000
set_option maxHeartbeats 2000000
namespace Go.Proofs.YtamljhcmiphdgaaGreatDoor
open Go.RowKit Go.Sort
set_option linter.unusedVariables false
theorem flat_takeT:∀ (l:List Tx5) (k:Nat),(l.map txC).flatten.take (k * 5)=((l.take k).map txC).flatten
 | [],k=>by simp
 | t :: l,0=>by simp
 | t :: l,k+1=>by
  rw [List.map_cons,List.flatten_cons,List.take_succ_cons,List.map_cons,List.flatten_cons,<- flat_takeT l k,List.take_append,List.take_of_length_le (show (txC t).length<=(k+1) * 5 by show 5<=_;omega)]
  congr 2
  show (k+1) * 5 - 5=_
  omega
theorem flat_dropT:∀ (l:List Tx5) (k:Nat),(l.map txC).flatten.drop (k * 5)=((l.drop k).map txC).flatten
 | [],k=>by simp
 | t :: l,0=>by simp
 | t :: l,k+1=>by
  rw [List.map_cons,List.flatten_cons,List.drop_succ_cons,<- flat_dropT l k,List.drop_append,List.drop_eq_nil_of_le (show (txC t).length<=(k+1) * 5 by show 5<=_;omega),List.nil_append]
  congr 1
  show (k+1) * 5 - 5=_
  omega
theorem bW_ (l:List Tx5) (k:Nat) (t:Tx5):((insT k t l).map txC).flatten=(l.map txC).flatten.take (k * 5) ++ txC t ++ (l.map txC).flatten.drop (k * 5):=by
 rw [flat_takeT,flat_dropT]
 unfold insT
 rw [List.map_append,List.flatten_append,List.map_cons,List.flatten_cons,List.append_assoc]
theorem bY_ (t:Tx5):∀ u ∈ txC t,u.oneCell'=true:=fun u hu=>by
 simp only [txC,List.mem_cons,List.not_mem_nil,or_false] at hu
 rcases hu with rfl | rfl | rfl | rfl | rfl <;> rfl
theorem ez_ (l:List Tx5):∀ u ∈ (l.map txC).flatten,u.oneCell'=true:=fun u hu=>by
 obtain ⟨c,hc,hu⟩:=List.mem_flatten.1 hu
 obtain ⟨t,_,rfl⟩:=List.mem_map.1 hc
 exact bY_ t u hu
theorem gq_ (base k B:Nat) (v:Value) (l:List Tx5) (t:Tx5) (w:World) (ho:OwnT base w v l) (hB:Blk w B 59 (txC t)) (hne:v.ownBlock ≠ some B) (hk:k<=l.length) (hl:l.length<=4000000) (hbase:base<=w.heap.size) :
  Calls Tryz.prog 140 #[v,.int .i64 (k:Int),.slice (some ⟨B,0,none⟩) 1 1] w fun e w'=>∃ v',e=.returned v'/\OwnT base w' v' (insT k t l)/\w.grownBy w' v.ownBlock:=by
 by_cases hkl:k=l.length
 ·subst hkl
  refine (iv_ base l.length B v _ _ w ho hB rfl (bY_ t) hl hbase).mono ?_
  rintro e w' ⟨v',rfl,o,g⟩
  refine ⟨v',rfl,?_,g⟩
  unfold OwnT
  rw [am_,bW_,List.take_of_length_le (by rw [ho.1];exact nr_ _),List.drop_eq_nil_of_le (by rw [ho.1];exact nr_ _),List.append_nil]
  exact o
 ·rcases ho.2 with ⟨rfl,h0⟩ | ⟨g,cap,cur,rfl,hb,hg,h1,h2,h3,h4⟩
  ·omega
  ·have hne':B ≠ g:=fun e=>hne (by rw [e];rfl)
   by_cases hr:l.length+1<=cap
   ·refine (hz_ base g l.length cap k B _ _ w ho hB hne' rfl (bY_ t) (ez_ l) (by omega) hl hr).mono ?_
    rintro e w' ⟨v',rfl,o,gr⟩
    exact ⟨v',rfl,by unfold OwnT;rw [am_,bW_];exact o,gr⟩
   ·refine (ht_ base g l.length cap k B _ _ w ho hB rfl (bY_ t) (ez_ l) (by omega) hl (by omega) hbase).mono ?_
    rintro e w' ⟨v',rfl,o,gr⟩
    exact ⟨v',rfl,by unfold OwnT;rw [am_,bW_];exact o,gr⟩
theorem kC_ (v:Value) (l:List Tx5) (t:Tx5) (i B1 B2:Nat) (w:World) (hr:RdT w v l) (h1:w.cell? ⟨B1,0,none⟩=some v) (h2:Blk w B2 59 (txC t)) (hi:i < l.length) (hl:l.length<=4000000) :
  Calls Tryz.prog 138 #[.int .i64 (i:Int),.pointer (some ⟨B1,0,none⟩),.pointer (some ⟨B2,0,none⟩)] w fun e w'=>e=.returned (.bool (!lessT (l.getD i tx0) t))/\Below w.heap.size w w':=by
 rcases hr with ⟨a,cap,rfl,rfl,-⟩ | ⟨b,off,cap,h0,rfl,-,-,hbw,h4⟩
 ·simp at hi
 rw [U_ hi]
 have hT:=h4 i hi
 have hli:(i:Int) < (l.length:Int):=by omega
 have HL:=a_ (fun (d:Nat) (os:Array Obj)=>Calls.regrown_of (ba_ l[i] t (grow (redrawn w d) os)))
 generalize l[i]=x at hT HL ⊢
 generalize lessT x t=X at HL ⊢
 obtain ⟨kd,fm,tn,am,nc⟩:=x
 obtain ⟨k2,f2,t2,a2,n2⟩:=t
 obtain ⟨c0,c1,c2,c3,c4⟩:=hT
 have d0:=h2.cell 0
 have d1:=h2.cell 1
 have d2:=h2.cell 2
 have d3:=h2.cell 3
 have d4:=h2.cell 4
 simp only [txC,txV,gz_,gs_] at c0 c1 c2 c3 c4 d0 d1 d2 d3 d4 HL
 have g0:=cell_regrown c0
 have g1:=cell_regrown c1
 have g2:=cell_regrown c2
 have g3:=cell_regrown c3
 have g4:=cell_regrown c4
 have e0:=cell_regrown d0
 have e1:=cell_regrown d1
 have e2:=cell_regrown d2
 have e3:=cell_regrown d3
 have e4:=cell_regrown d4
 have gv:=cell_regrown h1
 clear c0 c1 c2 c3 c4 d0 d1 d2 d3 d4 h1 h2 h4
 go_enter Tryz.func138,Tryz.ntmps138
 go_wp2
 refine wp_region_quiet_below (by kernel_rfl) (by kernel_rfl) ?_
 repeat (go_big_quiet_step ((go_at_call 139;exact HL.out _ _)))
 refine wpQuiet_nil ?_
 intro _ hw'
 obtain ⟨⟨dq,osq⟩,hw''⟩:=hw'
 subst hw''
 go_wp2
 go_ret
 exact ⟨rfl,below_regrown w dq osq⟩
theorem iL_ (n:Nat) (p:Nat->Bool) (B1 B2:Nat) (w:World) (hn:n<=4000000) (hf:∀ V,Below w.heap.size w V->∀ i,i < n->Calls Tryz.prog 138 #[.int .i64 (i:Int),.pointer (some ⟨B1,0,none⟩),.pointer (some ⟨B2,0,none⟩)] V fun e w'=>e=.returned (.bool (p i))/\Below V.heap.size V w') :
  Calls Tryz.prog 137 #[.int .i64 (n:Int),.func (.func 138) #[] #[.pointer (some ⟨B1,0,none⟩),.pointer (some ⟨B2,0,none⟩)]] w fun e w'=>∃ k:Nat,e=.returned (.int .i64 (k:Int))/\k<=n/\(k=0\/p (k - 1)=false)/\(k=n\/p k=true)/\Below w.heap.size w w':=by
 have Hf:=a_ hf
 clear hf
 go_enter Tryz.func137,Tryz.ntmps137
 go_wp2
 go_loopw [5,6] (fun iv jv wr=>∃ i j:Nat,i<=j/\j<=n/\iv=.int .i64 (i:Int)/\jv=.int .i64 (j:Int)/\(i=0\/p (i - 1)=false)/\(j=n\/p j=true)/\Below w.heap.size w wr) (fun iv jv _=>(intOf jv).toNat - (intOf iv).toNat)
 case atStart=>exact ⟨0,n,Nat.zero_le _,nr_ _,rfl,rfl,.inl rfl,.inl rfl,br_ _ _⟩
 case round =>
  obtain ⟨i,j,hij,hjn,rfl,rfl,hlo,hhi,hb⟩:=hrel
  have Hlo:=a_ hlo
  have Hhi:=a_ hhi
  clear hlo hhi
  by_cases hlt:i < j
  ·have hmi:i<=((i+j) / 2):=by omega
   have hmj:((i+j) / 2) < j:=by omega
   have e1:wrap64 ((i:Int)+(j:Int))=((i+j:Nat):Int):=by unfold wrap64;omega
   have hm0:(0:Int)<=(((i+j) / 2:Nat):Int):=by omega
   have hij2:(i:Int) < (j:Int):=by omega
   have HC:=a_ (Hf.out wr hb ((i+j) / 2) (by omega))
   have Hb:=a_ hb
   clear hb
   cases hp:p ((i+j) / 2)
   ·rw [hp] at HC
    have Hp:=a_ hp
    clear hp
    go_wp2_with (go_at_call 138;refine HC.out.mono ?_;rintro e w2 ⟨rfl,hb2⟩)
    go_roundw
    case rel=>exact ⟨((i+j) / 2)+1,j,by omega,hjn,by congr 1,rfl,.inr Hp.out,Hhi.out,Hb.out.trans (hb2.mono Hb.out.size)⟩
    case measure=>simp [intOf];omega
   ·rw [hp] at HC
    have Hp:=a_ hp
    clear hp
    go_wp2_with (go_at_call 138;refine HC.out.mono ?_;rintro e w2 ⟨rfl,hb2⟩)
    go_roundw
    case rel=>exact ⟨i,((i+j) / 2),by omega,by omega,rfl,by congr 1,Hlo.out,.inr Hp.out,Hb.out.trans (hb2.mono Hb.out.size)⟩
    case measure=>simp [intOf];omega
  ·obtain rfl:i=j:=by omega
   go_wp2
   go_ret
   exact ⟨i,rfl,hjn,Hlo.out,Hhi.out,hb⟩
open Go.RowKit
theorem OwnT.mono1 {base base':Nat} {w:World} {v:Value} {l:List Tx5} (h:OwnT base w v l) (hB:base'<=base):OwnT base' w v l:=by
 refine ⟨h.1,?_⟩
 rcases h.2 with h2 | ⟨g,cap,cur,rfl,hb,hg,hrest⟩
 ·exact .inl h2
 ·exact .inr ⟨g,cap,cur,rfl,Nat.le_trans hB hb,hg,hrest⟩
theorem bF_ (v:Value) (l:List Tx5) (t:Tx5) (w:World) (hr:RdT w v l) (hl:l.length<=3999999) (hall:∀ a ∈ l,a.2.1.size<=maxLen/\a.2.2.1.size<=maxLen) (ht:t.2.1.size<=maxLen/\t.2.2.1.size<=maxLen) :
  Calls Tryz.prog 101 #[v,txV t] w fun e w'=>∃ v',e=.returned (.tuple #[v',.bool (poS l t).2])/\OwnT w.heap.size w' v' (poS l t).1/\Below w.heap.size w w':=by
 obtain ⟨a,c,rfl⟩:=hr.shape
 have Hpo:=a_ (fun k h=>kA_ (l:=l) (t:=t) (k:=k) h)
 have HmI:Hid (∀ k,∀ x ∈ insT k t l,x.2.1.size<=maxLen/\x.2.2.1.size<=maxLen):=a_ (fun k x hx=>by
  rcases bj_.1 hx with rfl | h
  ·exact ht
  ·exact hall x h)
 have HlI:Hid (∀ k,(insT k t l).length<=4000000):=a_ (fun k=>by rw [am_];omega)
 generalize poS l t=X at Hpo ⊢
 obtain ⟨kd,fm,tn,am,nc⟩:=t
 simp only [txV]
 obtain ⟨w1,hw1⟩:∃ x,w.alloc (.cells #[.slice a l.length c] 52)=x:=⟨_,rfl⟩
 obtain ⟨w2,hw2⟩:∃ x,w1.alloc (.cells #[.int .i64 kd,.string fm,.string tn,.int .i64 am,.int .i64 nc] 59)=x:=⟨_,rfl⟩
 have hs1:w1.heap.size=w.heap.size+1:=by rw [<- hw1];simp
 have hs2:w2.heap.size=w.heap.size+2:=by rw [<- hw2];simp;omega
 have hb1:Below w.heap.size w w1:=by rw [<- hw1];exact (br_ _ w).alloc (nr_ _) _
 have hb2:Below w1.heap.size w1 w2:=by rw [<- hw2];exact (br_ _ w1).alloc (nr_ _) _
 have k1:Blk w1 w.heap.size 52 [.slice a l.length c]:=by rw [<- hw1];exact Blk.new w _ _
 have k2:Blk w2 w1.heap.size 59 [.int .i64 kd,.string fm,.string tn,.int .i64 am,.int .i64 nc]:=by
  rw [<- hw2];exact Blk.new w1 _ _
 replace k1:=k1.below hb2 k1.lt
 have hb:Below w.heap.size w w2:=hb1.trans (hb2.mono (by omega))
 have HF:=a_ (iL_ l.length (fun i=>!lessT (l.getD i tx0) (kd,fm,tn,am,nc)) w.heap.size w1.heap.size w2 (by omega) (fun V hV i hi=>kC_ (.slice a l.length c) l (kd,fm,tn,am,nc) i w.heap.size w1.heap.size V ((hr.below hb (nr_ _)).below hV (nr_ _)) ((k1.below hV k1.lt).cell 0) (k2.below hV k2.lt) hi (by omega)))
 have Hr:=a_ hr
 have c0:=k1.cell 0
 simp only [gz_] at c0
 have K1:=a_ k1
 have K2:=a_ k2
 have Hb:=a_ hb
 have S1:=a_ hs1
 have S2:=a_ hs2
 have Hall:=a_ hall
 clear hr k1 k2 hb hb1 hb2 hs1 hs2 hall
 go_enter Tryz.func101,Tryz.ntmps101
 have hmf:∀ (fn:Fn) (first cap:Array Value) (w:World),(Instr.makeFunc fn first cap).run Tryz.prog w=.ok (.func fn first cap) w:=fun _ _ _ _=>rfl
 go_wp2_with fail
 refine HF.out.mono ?_
 rintro e w3 ⟨k,rfl,hk,hlo,hhi,hb3⟩
 have Hp:Hid (Plc l (kd,fm,tn,am,nc) k):=a_ ⟨hk,by simpa using hlo,by simpa using hhi⟩
 have K1:=a_ (K1.out.below hb3 K1.out.lt)
 have K2:=a_ (K2.out.below hb3 K2.out.lt)
 have HSx:Hid (∀ W,Below w3.heap.size w3 W->(W.cell? ⟨w.heap.size,0,none⟩=some (.slice a l.length c)/\W.cell? ⟨w1.heap.size,0,none⟩=some (.int .i64 kd)/\W.cell? ⟨w1.heap.size,1,none⟩=some (.string fm)/\W.cell? ⟨w1.heap.size,2,none⟩=some (.string tn)/\W.cell? ⟨w1.heap.size,3,none⟩=some (.int .i64 am)/\W.cell? ⟨w1.heap.size,4,none⟩=some (.int .i64 nc))):=a_ (fun W hW=>by
  have a1:=K1.out.below hW K1.out.lt
  have a2:=K2.out.below hW K2.out.lt
  exact ⟨a1.cell 0,a2.cell 0,a2.cell 1,a2.cell 2,a2.cell 3,a2.cell 4⟩)
 have HB3:=a_ (Hb.out.trans (hb3.mono Hb.out.size))
 have HC:=a_ (fun V (hV:Below w3.heap.size w3 V)=>aB_ (.slice a l.length c) l V ((Hr.out.below HB3.out (nr_ _)).below hV (nr_ _)) (by omega))
 have HIn:=a_ (fun V v B (ho:OwnT w3.heap.size V v l) (hB:Blk V B 59 [.int .i64 kd,.string fm,.string tn,.int .i64 am,.int .i64 nc]) (hne:v.ownBlock ≠ some B) (hz:w3.heap.size<=V.heap.size)=>gq_ w3.heap.size k B v l (kd,fm,tn,am,nc) V ho hB hne hk (by omega) hz)
 have HO:=a_ (fun V v (h:RdT V v (insT k (kd,fm,tn,am,nc) l))=>aX_ v (insT k (kd,fm,tn,am,nc) l) V h (HlI.out k) (HmI.out k))
 have Hpo:=a_ (Hpo.out k Hp.out)
 have bD:Below w3.heap.size w3 w3.drew:=(br_ _ w3).drew
 have bE:Below w3.heap.size w3 (w3.alloc (.cells #[.int .i64 kd,.string fm,.string tn,.int .i64 am,.int .i64 nc] 59)).drew:=((br_ _ w3).alloc (nr_ _) _).drew
 have zE:(w3.alloc (.cells #[.int .i64 kd,.string fm,.string tn,.int .i64 am,.int .i64 nc] 59)).drew.heap.size=w3.heap.size+1:=by simp
 have hS0:=HSx.out _ bD
 have hSE:=HSx.out _ bE
 have HLI:=a_ (fun V v (h:RdT V v (insT k (kd,fm,tn,am,nc) l))=>h.shape)
 generalize insT k (kd,fm,tn,am,nc) l=I at HIn HO Hpo HLI
 generalize I.length=inn at HLI
 clear hlo hhi hb3 c0 HF hw1 hw2 Hp HlI HmI
 have hk':=hk
 clear hk
 go_wp2
 go_region_held_law (fun w'=>w'.cell? ⟨w.heap.size,0,none⟩=some (.slice a l.length c)/\w'.cell? ⟨w1.heap.size,0,none⟩=some (.int .i64 kd)/\w'.cell? ⟨w1.heap.size,1,none⟩=some (.string fm)/\w'.cell? ⟨w1.heap.size,2,none⟩=some (.string tn)/\w'.cell? ⟨w1.heap.size,3,none⟩=some (.int .i64 am)/\w'.cell? ⟨w1.heap.size,4,none⟩=some (.int .i64 nc)) (first | with_reducible exact hS0 | with_reducible exact hSE | with_reducible exact hS4 | with_reducible exact hS4a | with_reducible exact hS5) ((first
  | (go_at_call 140;(with_reducible refine (HIn.out _ _ _ oI kI nI zI).mono ?_);rintro e w5 ⟨v5,rfl,o5,hg5⟩;have hB5:Below w3.heap.size w3 w5:=bI.trans ((br_ _ _).grown hg5 zI (fun q hq=>(oI.lt q hq).1));have hS5:=HSx.out _ hB5;obtain ⟨a5,c5,hv5⟩:=HLI.out _ _ o5.rd;subst hv5)
  | (go_at_call 106;(with_reducible refine (HC.out w3.drew bD).mono ?_);rintro e w4 ⟨v4,rfl,o4,hb4⟩;have hB4:Below w3.heap.size w3 w4:=bD.trans hb4;have hS4:=HSx.out _ hB4;have bI:=hB4.alloc hB4.size (.cells #[.int .i64 kd,.string fm,.string tn,.int .i64 am,.int .i64 nc] 59);have hS4a:=HSx.out _ bI;obtain ⟨a4,c4,hv4⟩:=o4.rd.shape;subst hv4;have oI:OwnT w3.heap.size (w4.alloc (.cells #[.int .i64 kd,.string fm,.string tn,.int .i64 am,.int .i64 nc] 59)) (.slice a4 l.length c4) l:=OwnT.below (w:=w4) o4 ((br_ _ w4).alloc (nr_ _) _) (nr_ _);have kI:Blk (w4.alloc (.cells #[.int .i64 kd,.string fm,.string tn,.int .i64 am,.int .i64 nc] 59)) w4.heap.size 59 [.int .i64 kd,.string fm,.string tn,.int .i64 am,.int .i64 nc]:=Blk.new w4 59 [.int .i64 kd,.string fm,.string tn,.int .i64 am,.int .i64 nc];have nI:(Value.slice a4 l.length c4).ownBlock ≠ some w4.heap.size:=(fun h=>by have:=(o4.lt _ h).2;omega);have zI:w3.heap.size<=(w4.alloc (.cells #[.int .i64 kd,.string fm,.string tn,.int .i64 am,.int .i64 nc] 59)).heap.size:=by have:=hB4.size;simp;omega)
  | (go_at_call 106;(with_reducible refine (HC.out (w3.alloc (.cells #[.int .i64 kd,.string fm,.string tn,.int .i64 am,.int .i64 nc] 59)).drew bE).mono ?_);rintro e w4 ⟨v4,rfl,o4,hb4⟩;have bI:Below w3.heap.size w3 w4:=bE.trans (hb4.mono (by omega));have hS4:=HSx.out _ bI;obtain ⟨a4,c4,hv4⟩:=o4.rd.shape;subst hv4;have nI:(Value.slice a4 l.length c4).ownBlock ≠ some w3.heap.size:=(fun h=>by have:=(o4.lt _ h).1;omega);have oI:OwnT w3.heap.size w4 (.slice a4 l.length c4) l:=o4.mono1 (by omega);have kI:Blk w4 w3.heap.size 59 [.int .i64 kd,.string fm,.string tn,.int .i64 am,.int .i64 nc]:=Blk.below (W:=(w3.alloc (.cells #[.int .i64 kd,.string fm,.string tn,.int .i64 am,.int .i64 nc] 59)).drew) (Blk.new w3 59 [.int .i64 kd,.string fm,.string tn,.int .i64 am,.int .i64 nc]) hb4 (by omega);have zI:=bI.size)))
 all_goals
  have O5:=a_ o5
  have HB5:=a_ hB5
  clear o4 oI kI nI zI bI hb4 hg5 hS0 hSE hS4 hS5 bD bE zE HIn o5 hB5
  go_wp2_with fail
  refine (HO.out _ _ O5.out.rd).mono ?_
  rintro e w6 ⟨rfl,hb6⟩
  have hB6:Below w3.heap.size w3 w6:=HB5.out.trans (hb6.mono HB5.out.size)
  cases hI:poolB I
  ·rw [hI,if_neg (by simp)] at Hpo
   have c0:=(HSx.out _ hB6).1
   have HC6:=a_ (HC.out w6 hB6)
   have HBw:=a_ (HB3.out.trans (hB6.mono HB3.out.size))
   clear hI hB6 hb6
   go_wp2_with fail
   refine HC6.out.mono ?_
   rintro e w7 ⟨v7,rfl,o7,hb7⟩
   obtain ⟨a7,c7,rfl⟩:=o7.rd.shape
   go_wp2
   go_ret2
   have:=Hpo.out
   subst this
   exact ⟨.slice a7 l.length c7,rfl,o7.mono1 HBw.out.size,HBw.out.trans (hb7.mono HBw.out.size)⟩
  ·rw [hI,if_pos rfl] at Hpo
   have HBw:=a_ (HB3.out.trans (hB6.mono HB3.out.size))
   have O6:=a_ (O5.out.below hb6 (nr_ _))
   clear hI hB6 hb6
   go_wp2
   go_ret2
   have:=Hpo.out
   subst this
   exact ⟨.slice a5 inn c5,rfl,O6.out.mono1 HB3.out.size,HBw.out⟩
end Go.Proofs.YtamljhcmiphdgaaGreatDoor
