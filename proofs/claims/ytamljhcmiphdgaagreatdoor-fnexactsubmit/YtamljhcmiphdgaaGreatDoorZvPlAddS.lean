/- The model puts an order into a pool. -/
import Derived.Deep.DeepCutAuto
import Derived.Test.YtamljhcmiphdgaaGreatDoorZvNdPure
set_option maxRecDepth 20000
set_option maxHeartbeats 2000000
namespace Go.Proofs.YtamljhcmiphdgaaGreatDoor
open Go.RowKit Go.Sort
set_option linter.unusedVariables false
theorem ih_ (w:World) (ty:TypeId) (base:Nat) (v vx:Value) (l k:List Tx5) (hown:OwnT base w v l) (hrd:RdT w vx k) (hlen:l.length+k.length<=100000000) (hbase:base<=w.heap.size) :
  ∃ v' w',Sem.run Tryz.prog (Builtin.append_ #[52,52] ty #[v,vx]) w=.ok v' w'/\OwnT base w' v' (l ++ k)/\w.grownBy w' v.ownBlock/\(v'.ownBlock=v.ownBlock\/v'.ownBlock=some w.heap.size):=by
 obtain ⟨i0,hi,hz0,hz1,hz2⟩:=info_parts Tryz.infoTx
 rcases hrd with ⟨ax,cap,rfl,rfl,hnil⟩ | ⟨b,off,cap,h0,rfl,h1,h2,h3,h4⟩
 ·cases ax with
  | none =>
   have hc:cap=0:=hnil rfl
   subst hc
   exact ⟨v,w,run_append_owned_none (P:=Tryz.prog) (w:=w) base 52 ty 59 i0 5 Tryz.underlying52 hi v l.length _ hown,by simpa using hown,World.grownBy.refl _ _,.inl rfl⟩
  | some ad =>
   obtain ⟨v',w',hr,o,g,_,hl⟩:=run_append_own_at (P:=Tryz.prog) w base 52 ty 59 i0 _ 5 56 Tryz.underlying52 hi hz0 hz1 hz2 rfl (by decide) v l.length (l.map txC).flatten hown ad 0 cap [] rfl (by intro j u hj;simp at hj) (by intro u hu;simp at hu) (by unfold maxLen;simp at hlen;omega) (by simp at hlen;omega) hbase
   exact ⟨v',w',hr,by simpa [OwnT] using o,g,hl⟩
 ·obtain ⟨v',w',hr,o,g,_,hl⟩:=run_append_own_at (P:=Tryz.prog) w base 52 ty 59 i0 _ 5 56 Tryz.underlying52 hi hz0 hz1 hz2 rfl (by decide) v l.length (l.map txC).flatten hown ⟨b,off,none⟩ k.length cap (k.map txC).flatten (by rw [s_ 5 _ (aE_ k),List.length_map]) (em_ h4) (fun u hu=>by
   obtain ⟨c,hc,hu⟩:=List.mem_flatten.1 hu
   obtain ⟨p,_,rfl⟩:=List.mem_map.1 hc
   simp only [txC,List.mem_cons,List.not_mem_nil,or_false] at hu
   rcases hu with rfl | rfl | rfl | rfl | rfl <;> rfl) (by unfold maxLen;omega) (by omega) hbase
  exact ⟨v',w',hr,by simpa [OwnT] using o,g,hl⟩
theorem bl_ {ops:Array Oper} {o:Oper} {a:Act} {w:World} {K:Act->World->Prop} {Q:Exit->Act->World->Prop} {E:Prop} (hgd:o.guard=none) (s x:Operand)
  (ho:o.op=.call { callee:=.builtin .append,args:=#[s,x],argTypes:=#[52,52] })
  (base:Nat) (v vx:Value) (l k:List Tx5) (hs:a.eval s=v) (hx:a.eval x=vx) (hown:OwnT base w v l) (hrd:RdT w vx k)
  (hlen:l.length+k.length<=100000000) (hbase:base<=w.heap.size)
  (h:∀ v' w',OwnT base w' v' (l ++ k)->w.grownBy w' v.ownBlock->(v'.ownBlock=v.ownBlock\/v'.ownBlock=some w.heap.size)->K (a.put o.dst v') w'):if Region.wanted o (yielded ops a.tmps)=true then Oper.wp Tryz.prog o a w K Q else E:=by
 have hw:Region.wanted o (yielded ops a.tmps)=true:=by simp [Region.wanted,hgd]
 rw [if_pos hw]
 obtain ⟨v',w',hr,h2,h3,h5⟩:=ih_ w o.type base v vx l k hown hrd hlen hbase
 unfold Oper.wp execOp
 simp only [ho,resolve,invoke,builtin,Sem.run_bind,Sem.run_pure,Result.andThen_ok,List.map_toArray,List.map_cons,List.map_nil,hs,hx,hr]
 exact h v' w' h2 h3 h5
def holeT (l:List Tx5) (k:Nat) (x:Tx5):List Tx5:=l.take k ++ x :: l.drop k
theorem l_ {l:List Tx5} {k:Nat} {x:Tx5}:(holeT l k x).length=l.length+1:=by
 unfold holeT
 rw [List.length_append,List.length_cons,List.length_take,List.length_drop];omega
theorem bE_ {l:List Tx5} {k:Nat} {x y:Tx5} (hk:k<=l.length):((holeT l k x).map txC).set k (txC y)=(holeT l k y).map txC:=by
 unfold holeT
 have e:(l.take k).length=k:=by rw [List.length_take];omega
 rw [List.map_append,List.map_append,List.set_append,if_neg (by rw [List.length_map,e];omega),List.length_map,e,Nat.sub_self,List.map_cons,List.map_cons]
 rfl
theorem hS_ {l:List Tx5} {k:Nat} (hk:k < l.length):holeT l (k+1) l[k]=holeT l k l[k]:=by
 unfold holeT
 rw [List.take_succ_eq_append_getElem hk,List.append_assoc,List.drop_eq_getElem_cons hk]
 rfl
theorem gF_ {l:List Tx5} {k i:Nat} {x:Tx5} (hi:i < k) (hk:k<=l.length):(holeT l k x)[i]'(by rw [l_];omega)=l[i]:=by
 unfold holeT
 rw [List.getElem_append_left (by rw [List.length_take];omega),List.getElem_take]
theorem iH_ (l:List Tx5) (x:Tx5):holeT l l.length x=l ++ [x]:=by unfold holeT;rw [List.take_length,List.drop_length]
theorem OwnT.cells1 {base g cap n:Nat} {w:World} {l:List Tx5} (h:OwnT base w (.slice (some ⟨g,0,none⟩) n cap) l) (hn:n=l.length) (i:Nat) (hi:i < l.length):TxAt w g (i * 5) l[i]/\∀ j,w.frozen? ⟨g,j,none⟩=false:=by
 subst hn
 have cell:∀ j,j < 5->w.cell? ⟨g,i * 5+j,none⟩=(txC l[i])[j]?:=fun j hj=>by
  rw [World.ownsRow.cellAt h (i * 5+j) (by omega),i_ 5 (l.map txC) i j (by simpa using hi) (aE_ l) hj]
  simp
 exact ⟨⟨cell 0 (by omega),cell 1 (by omega),cell 2 (by omega),cell 3 (by omega),cell 4 (by omega)⟩,fun j=>World.ownsRow.frozenAt h j⟩
theorem OwnT.put1 {base g cap n:Nat} {w:World} {l l':List Tx5} (h:OwnT base w (.slice (some ⟨g,0,none⟩) n cap) l) (hn:n=l.length) (i:Nat) (hi:i < l.length) (y:Tx5) (hs:(l.map txC).set i (txC y)=l'.map txC) (hl:l'.length=l.length) :
  OwnT base (((((w.setCell ⟨g,i * 5,none⟩ (.int .i64 y.1)).setCell ⟨g,i * 5+1,none⟩ (.string y.2.1)).setCell ⟨g,i * 5+2,none⟩ (.string y.2.2.1)).setCell ⟨g,i * 5+3,none⟩ (.int .i64 y.2.2.2.1)).setCell ⟨g,i * 5+4,none⟩ (.int .i64 y.2.2.2.2)) (.slice (some ⟨g,0,none⟩) n cap) l':=by
 subst hn
 have s1:=(World.ownsRow.stored h (i * 5) (.int .i64 y.1)).1
 have s2:=(s1.stored (i * 5+1) (.string y.2.1)).1
 have s3:=(s2.stored (i * 5+2) (.string y.2.2.1)).1
 have s4:=(s3.stored (i * 5+3) (.int .i64 y.2.2.2.1)).1
 have s5:=(s4.stored (i * 5+4) (.int .i64 y.2.2.2.2)).1
 rw [aA_ (l.map txC) i _ _ _ _ _ (by simpa using hi) (aE_ l)] at s5
 have e:(l.map txC).set i [.int .i64 y.1,.string y.2.1,.string y.2.2.1,.int .i64 y.2.2.2.1,.int .i64 y.2.2.2.2]=l'.map txC:=hs
 rw [e] at s5
 unfold OwnT
 rw [hl]
 exact s5
theorem bs_ {B g i:Nat} {w:World} (v0 v1 v2 v3 v4:Value) (hg:B<=g):Below B w (((((w.setCell ⟨g,i,none⟩ v0).setCell ⟨g,i+1,none⟩ v1).setCell ⟨g,i+2,none⟩ v2).setCell ⟨g,i+3,none⟩ v3).setCell ⟨g,i+4,none⟩ v4) :=
 (((((br_ B w).setCell (p:=⟨g,i,none⟩) hg _).setCell (p:=⟨g,i+1,none⟩) hg _).setCell (p:=⟨g,i+2,none⟩) hg _).setCell (p:=⟨g,i+3,none⟩) hg _).setCell (p:=⟨g,i+4,none⟩) hg _
theorem bf_ {base base':Nat} {w:World} {v:Value} {l:List Tx5} (h:OwnT base w v l) (hB:base'<=base):OwnT base' w v l:=by
 refine ⟨h.1,?_⟩
 rcases h.2 with h2 | ⟨g,cap,cur,rfl,hb,hg,hrest⟩
 ·exact .inl h2
 ·exact .inr ⟨g,cap,cur,rfl,Nat.le_trans hB hb,hg,hrest⟩
theorem fs_ (v:Value) (l:List Tx5) (t:Tx5) (w:World) (hr:RdT w v l) (hl:l.length<=3999999) (hall:∀ a ∈ l,a.2.1.size<=maxLen/\a.2.2.1.size<=maxLen) (ht:t.2.1.size<=maxLen/\t.2.2.1.size<=maxLen) :
  Calls Tryz.prog 25 #[v,txV t] w fun e w'=>∃ v',e=.returned (.tuple #[v',.bool (poS l t).2])/\OwnT w.heap.size w' v' (poS l t).1/\Below w.heap.size w w':=by
 obtain ⟨a,c,rfl⟩:=hr.shape
 have HmI:Hid (∀ k,∀ x ∈ holeT l k t,x.2.1.size<=maxLen/\x.2.2.1.size<=maxLen):=a_ (fun k x hx=>by
  rcases (bj_ (k:=k) (t:=t) (x:=x) (l:=l)).1 hx with rfl | h
  ·exact ht
  ·exact hall x h)
 have Hpo:Hid ((if (poolB l && poolB (holeT l (buT l t l.length) t))=true then (holeT l (buT l t l.length) t,true) else (l,false))=poS l t):=a_ rfl
 generalize poS l t=X at Hpo ⊢
 have Hsp:=a_ (ab_ (.slice a l.length c) l)
 obtain ⟨kd,fm,tn,am,nc⟩:=t
 simp only [txV]
 obtain ⟨w1,hw1⟩:∃ x,w.alloc (.cells #[.int .i64 kd,.string fm,.string tn,.int .i64 am,.int .i64 nc] 59)=x:=⟨_,rfl⟩
 have hs1:w1.heap.size=w.heap.size+1:=by rw [<- hw1];simp
 have hb1:Below w.heap.size w w1:=by rw [<- hw1];exact (br_ _ w).alloc (nr_ _) _
 have k1:Blk w1 w.heap.size 59 [.int .i64 kd,.string fm,.string tn,.int .i64 am,.int .i64 nc]:=by rw [<- hw1];exact Blk.new w _ _
 have HSx:Hid (∀ W,Below w1.heap.size w1 W->(W.cell? ⟨w.heap.size,0,none⟩=some (.int .i64 kd)/\W.cell? ⟨w.heap.size,1,none⟩=some (.string fm)/\W.cell? ⟨w.heap.size,2,none⟩=some (.string tn)/\W.cell? ⟨w.heap.size,3,none⟩=some (.int .i64 am)/\W.cell? ⟨w.heap.size,4,none⟩=some (.int .i64 nc))):=a_ (fun W hW=>by
  have a2:=k1.below hW k1.lt
  exact ⟨a2.cell 0,a2.cell 1,a2.cell 2,a2.cell 3,a2.cell 4⟩)
 have Hr:=a_ (fun V (hV:Below w1.heap.size w1 V)=>(hr.below hb1 (nr_ _)).below hV (nr_ _))
 have Hb:=a_ hb1
 have S1:=a_ hs1
 have Hall:=a_ hall
 have bA:Below w1.heap.size w1 (w1.alloc (.cells #[] 59)).drew:=((br_ _ w1).alloc (nr_ _) _).drew
 have bB:Below w1.heap.size w1 ((w1.alloc (.cells #[] 59)).alloc (.cells #[.int .i64 kd,.string fm,.string tn,.int .i64 am,.int .i64 nc] 59)).drew:=(((br_ _ w1).alloc (nr_ _) _).alloc (by simp) _).drew
 have bC:Below w1.heap.size w1 ((w1.alloc (.cells #[.int .i64 kd,.string fm,.string tn,.int .i64 am,.int .i64 nc] 59)).alloc (.cells #[] 59)).drew:=(((br_ _ w1).alloc (nr_ _) _).alloc (by simp) _).drew
 have bF:Below w1.heap.size w1 (w1.alloc (.cells #[.int .i64 kd,.string fm,.string tn,.int .i64 am,.int .i64 nc] 59)).drew:=((br_ _ w1).alloc (nr_ _) _).drew
 have bD:Below w1.heap.size w1 w1.drew:=(br_ _ w1).drew
 have hSD:=HSx.out _ bD
 have hSA:=HSx.out _ bA
 have hSB:=HSx.out _ bB
 have hSC:=HSx.out _ bC
 have hSF:=HSx.out _ bF
 have oA:OwnT w1.heap.size (w1.alloc (.cells #[] 59)).drew (.slice (some ⟨w1.heap.size,0,none⟩) 0 0) []:=T_ w1 w1.heap.size (nr_ _)
 have oB:OwnT w1.heap.size ((w1.alloc (.cells #[] 59)).alloc (.cells #[.int .i64 kd,.string fm,.string tn,.int .i64 am,.int .i64 nc] 59)).drew (.slice (some ⟨w1.heap.size,0,none⟩) 0 0) []:=OwnT.below (w:=w1.alloc (.cells #[] 59)) (T_ w1 w1.heap.size (nr_ _)) ((br_ _ (w1.alloc (.cells #[] 59))).alloc (nr_ _) _).drew (nr_ _)
 have oC:OwnT w1.heap.size ((w1.alloc (.cells #[.int .i64 kd,.string fm,.string tn,.int .i64 am,.int .i64 nc] 59)).alloc (.cells #[] 59)).drew (.slice (some ⟨w1.heap.size+1,0,none⟩) 0 0) []:=by
  have h:=T_ (w1.alloc (.cells #[.int .i64 kd,.string fm,.string tn,.int .i64 am,.int .i64 nc] 59)) w1.heap.size (by simp)
  rw [World.size_alloc] at h
  exact h
 have kB:Blk ((w1.alloc (.cells #[] 59)).alloc (.cells #[.int .i64 kd,.string fm,.string tn,.int .i64 am,.int .i64 nc] 59)).drew (w1.heap.size+1) 59 [.int .i64 kd,.string fm,.string tn,.int .i64 am,.int .i64 nc]:=by
  have h:=Blk.new (w1.alloc (.cells #[] 59)) 59 [.int .i64 kd,.string fm,.string tn,.int .i64 am,.int .i64 nc]
  rw [World.size_alloc] at h
  exact h
 have kC:Blk ((w1.alloc (.cells #[.int .i64 kd,.string fm,.string tn,.int .i64 am,.int .i64 nc] 59)).alloc (.cells #[] 59)).drew w1.heap.size 59 [.int .i64 kd,.string fm,.string tn,.int .i64 am,.int .i64 nc]:=Blk.below (W:=w1.alloc (.cells #[.int .i64 kd,.string fm,.string tn,.int .i64 am,.int .i64 nc] 59)) (Blk.new w1 59 [.int .i64 kd,.string fm,.string tn,.int .i64 am,.int .i64 nc]) ((br_ _ (w1.alloc (.cells #[.int .i64 kd,.string fm,.string tn,.int .i64 am,.int .i64 nc] 59))).alloc (nr_ _) _).drew (by simp)
 have rA:=Hr.out _ bA
 have rB:=Hr.out _ bB
 have rC:=Hr.out _ bC
 have zA:w1.heap.size<=(w1.alloc (.cells #[] 59)).drew.heap.size:=by simp
 have zB:w1.heap.size<=((w1.alloc (.cells #[] 59)).alloc (.cells #[.int .i64 kd,.string fm,.string tn,.int .i64 am,.int .i64 nc] 59)).drew.heap.size:=by simp;omega
 have zC:w1.heap.size<=((w1.alloc (.cells #[.int .i64 kd,.string fm,.string tn,.int .i64 am,.int .i64 nc] 59)).alloc (.cells #[] 59)).drew.heap.size:=by simp;omega
 clear hr hb1 k1 hs1 hall ht
 go_enter Tryz.func25,Tryz.ntmps25
 go_upto_region 1 with fail
 go_cut [6] (fun ov wc=>∃ (a':Option Addr) (c':Nat),ov=.slice a' (l.length+1) c'/\OwnT w1.heap.size wc (.slice a' (l.length+1) c') (l ++ [(kd,fm,tn,am,nc)])/\Below w1.heap.size w1 wc)
 case first =>
  obtain ⟨d0,d1,d2,d3,d4⟩:=hSD
  obtain ⟨f0,f1,f2,f3,f4⟩:=hSA
  go_region_law ((first
   | (refine bm_ rfl _ _ rfl w1.heap.size (.slice a4 l.length c4) w4.heap.size l (kd,fm,tn,am,nc) (by rfl) (by rfl) (by with_reducible exact oI) kIA (by omega) (by with_reducible exact zI) ?_;intro v5 w5 o5 hg5 _;have hB5:Below w1.heap.size w1 w5:=bI.trans ((br_ _ _).grown hg5 zI (fun q hq=>(oI.lt q hq).1));obtain ⟨a5,c5,hv5⟩:=o5.rd.shape;rw [List.length_append,List.length_singleton] at hv5;subst hv5)
   | (refine bm_ rfl _ _ rfl w1.heap.size (.slice a4 l.length c4) (w1.heap.size+1) l (kd,fm,tn,am,nc) (by rfl) (by rfl) (by with_reducible exact oI) kIB (by omega) (by with_reducible exact zI) ?_;intro v5 w5 o5 hg5 _;have hB5:Below w1.heap.size w1 w5:=bI.trans ((br_ _ _).grown hg5 zI (fun q hq=>(oI.lt q hq).1));obtain ⟨a5,c5,hv5⟩:=o5.rd.shape;rw [List.length_append,List.length_singleton] at hv5;subst hv5)
   | (refine bm_ rfl _ _ rfl w1.heap.size (.slice a4 l.length c4) w1.heap.size l (kd,fm,tn,am,nc) (by rfl) (by rfl) (by with_reducible exact oI) kIC (by omega) (by with_reducible exact zI) ?_;intro v5 w5 o5 hg5 _;have hB5:Below w1.heap.size w1 w5:=bI.trans ((br_ _ _).grown hg5 zI (fun q hq=>(oI.lt q hq).1));obtain ⟨a5,c5,hv5⟩:=o5.rd.shape;rw [List.length_append,List.length_singleton] at hv5;subst hv5)
   | (refine bl_ rfl _ _ rfl w1.heap.size (.slice (some ⟨w1.heap.size,0,none⟩) 0 0) (.slice a l.length c) [] l (by rfl) (by rfl) (by with_reducible exact oA) (by with_reducible exact rA) (by simp;omega) (by with_reducible exact zA) ?_;intro v4 w4 o4 hg4 hl4;rw [List.nil_append] at o4;have hB4:Below w1.heap.size w1 w4:=bA.trans ((br_ _ _).grown hg4 zA (fun q hq=>(oA.lt q hq).1));have hS4:=HSx.out _ hB4;obtain ⟨x0,x1,x2,x3,x4⟩:=hS4;have bI:=hB4.alloc hB4.size (.cells #[.int .i64 kd,.string fm,.string tn,.int .i64 am,.int .i64 nc] 59);obtain ⟨a4,c4,hv4⟩:=o4.rd.shape;subst hv4;have oI:OwnT w1.heap.size (w4.alloc (.cells #[.int .i64 kd,.string fm,.string tn,.int .i64 am,.int .i64 nc] 59)) (.slice a4 l.length c4) l:=OwnT.below (w:=w4) o4 ((br_ _ w4).alloc (nr_ _) _) (nr_ _);have kIA:Blk (w4.alloc (.cells #[.int .i64 kd,.string fm,.string tn,.int .i64 am,.int .i64 nc] 59)) w4.heap.size 59 [.int .i64 kd,.string fm,.string tn,.int .i64 am,.int .i64 nc]:=Blk.new w4 59 [.int .i64 kd,.string fm,.string tn,.int .i64 am,.int .i64 nc];have zI:w1.heap.size<=(w4.alloc (.cells #[.int .i64 kd,.string fm,.string tn,.int .i64 am,.int .i64 nc] 59)).heap.size:=(by have:=hB4.size;simp;omega))
   | (refine bl_ rfl _ _ rfl w1.heap.size (.slice (some ⟨w1.heap.size,0,none⟩) 0 0) (.slice a l.length c) [] l (by rfl) (by rfl) (by with_reducible exact oB) (by with_reducible exact rB) (by simp;omega) (by with_reducible exact zB) ?_;intro v4 w4 o4 hg4 hl4;rw [List.nil_append] at o4;have bI:Below w1.heap.size w1 w4:=bB.trans ((br_ _ _).grown hg4 zB (fun q hq=>(oB.lt q hq).1));  have oI:=o4;have kIB:Blk w4 (w1.heap.size+1) 59 [.int .i64 kd,.string fm,.string tn,.int .i64 am,.int .i64 nc]:=(hg4.block _ kB.lt (fun h=>by simp [Value.ownBlock] at h)).trans kB;have zI:=bI.size;obtain ⟨a4,c4,hv4⟩:=o4.rd.shape;subst hv4)
   | (refine bl_ rfl _ _ rfl w1.heap.size (.slice (some ⟨w1.heap.size+1,0,none⟩) 0 0) (.slice a l.length c) [] l (by rfl) (by rfl) (by with_reducible exact oC) (by with_reducible exact rC) (by simp;omega) (by with_reducible exact zC) ?_;intro v4 w4 o4 hg4 hl4;rw [List.nil_append] at o4;have bI:Below w1.heap.size w1 w4:=bC.trans ((br_ _ _).grown hg4 zC (fun q hq=>(oC.lt q hq).1));  have oI:=o4;have kIC:Blk w4 w1.heap.size 59 [.int .i64 kd,.string fm,.string tn,.int .i64 am,.int .i64 nc]:=(hg4.block _ kC.lt (fun h=>by simp [Value.ownBlock] at h)).trans kC;have zI:=bI.size;obtain ⟨a4,c4,hv4⟩:=o4.rd.shape;subst hv4)))
  all_goals
   go_wp2_with fail
   go_meet
   case rel=>exact ⟨a5,c5,rfl,o5,hB5⟩
 obtain ⟨a6,c6,rfl,o6,hb6⟩:=hcut
 obtain ⟨w6,rfl⟩:∃ z,z=wc:=⟨_,rfl⟩
 obtain ⟨g,rfl⟩:∃ g,a6=some ⟨g,0,none⟩:=by
  rcases o6.2 with ⟨h0,h1⟩ | ⟨g,cap,cur,h0,-⟩
  ·simp at h1
  ·simp only [Value.slice.injEq] at h0
   exact ⟨g,h0.1⟩
 have hge:w1.heap.size<=g:=(o6.lt g rfl).1
 have O6:=a_ o6
 have B6:=a_ hb6
 clear o6 hb6 bA bB bC bF bD hSD hSA hSB hSC hSF oA oB oC kB kC rA rB rC zA zB zC
 go_wp2
 go_loopw [7] (fun kv wr=>∃ (k:Nat) (x:Tx5),k<=l.length/\kv=.int .i64 (k:Int)/\OwnT w1.heap.size wr (.slice (some ⟨g,0,none⟩) (l.length+1) c6) (holeT l k x)/\buT l (kd,fm,tn,am,nc) l.length=buT l (kd,fm,tn,am,nc) k/\Below w1.heap.size w1 wr) (fun kv _=>(intOf kv).toNat)
 case atStart=>exact ⟨l.length,(kd,fm,tn,am,nc),nr_ _,by first | rfl | go_num | (congr 1;omega),by rw [iH_];exact O6.out,rfl,B6.out⟩
 case round =>
  obtain ⟨k,x,hk,rfl,ho,hbu,hb9⟩:=hrel
  clear O6 B6
  have Ho:=a_ ho
  have Hb9:=a_ hb9
  obtain ⟨s0,s1,s2,s3,s4⟩:=HSx.out _ hb9
  have r0:=cell_regrown s0
  have r1:=cell_regrown s1
  have r2:=cell_regrown s2
  have r3:=cell_regrown s3
  have r4:=cell_regrown s4
  clear s0 s1 s2 s3 s4
  by_cases hpos:0 < k
  ·have hk1:k - 1 < l.length:=by omega
   have hT:=(ho.cells1 (by rw [l_]) (k - 1) (by rw [l_];omega)).1
   rw [gF_ (by omega) hk] at hT
   have HL:=a_ (fun (d:Nat) (os:Array Obj)=>Calls.regrown_of (be_ (kd,fm,tn,am,nc) l[k - 1] (grow (redrawn wr d) os)))
   have hbk:buT l (kd,fm,tn,am,nc) k=if lessT (kd,fm,tn,am,nc) l[k - 1]=true then buT l (kd,fm,tn,am,nc) (k - 1) else k:=by
    obtain ⟨m,rfl⟩:∃ m,k=m+1:=⟨k - 1,by omega⟩
    show (if lessT _ (l.getD m tx0)=true then _ else _)=_
    rw [U_ (show m < l.length by omega)]
    rfl
   have Hdn:Hid (holeT l k l[k - 1]=holeT l (k - 1) l[k - 1]):=a_ (by
    have h:=hS_ hk1
    rw [show k - 1+1=k by omega] at h
    exact h)
   have Hset:=a_ (bE_ (l:=l) (k:=k) (x:=x) (y:=l[k - 1]) hk)
   generalize l[k - 1]=p at hT HL hbk Hdn Hset
   obtain ⟨pk,pf,pt,pa,pn⟩:=p
   obtain ⟨c0,c1,c2,c3,c4⟩:=hT
   simp only [txV] at c0 c1 c2 c3 c4 HL
   have HT:Hid (TxAt wr g ((k - 1) * 5) (pk,pf,pt,pa,pn)):=a_ ⟨c0,c1,c2,c3,c4⟩
   have g0:=cell_regrown c0
   have g1:=cell_regrown c1
   have g2:=cell_regrown c2
   have g3:=cell_regrown c3
   have g4:=cell_regrown c4
   have hP:(0:Int) < (k:Int):=by omega
   have hd1:decide ((0:Int) < (k:Int))=true:=by simp;omega
   have hix:((k:Int) - 1).toNat=k - 1:=by omega
   have hix1:(0:Int)<=(k:Int) - 1:=by omega
   have hix2:(k:Int) - 1 < ((l.length+1:Nat):Int):=by omega
   have hix3:(k:Int) - 1 < (l.length:Int)+1:=by omega
   clear c0 c1 c2 c3 c4 ho hb9
   cases hless:lessT (kd,fm,tn,am,nc) (pk,pf,pt,pa,pn)
   ·rw [hless] at HL hbk
    rw [if_neg (by simp)] at hbk
    have Hbu:=a_ (hbu.trans hbk)
    clear hless hbk hbu Hdn Hset
    go_wp2
    refine wp_region_quiet_below (by kernel_rfl) (by kernel_rfl) ?_
    repeat (go_big_quiet_step ((go_at_call 90;exact HL.out _ _)))
    refine wpQuiet_nil ?_
    intro _ hw'
    obtain ⟨⟨dq,osq⟩,hw''⟩:=hw'
    subst hw''
    obtain ⟨w9,hw9⟩:∃ z,grow (redrawn wr dq) osq=z:=⟨_,rfl⟩
    have b9:Below wr.heap.size wr w9:=by rw [<- hw9];exact below_regrown wr dq osq
    rw [hw9]
    clear hw9
    clear r0 r1 r2 r3 r4 g0 g1 g2 g3 g4 HL
    have hB9:Below w1.heap.size w1 w9:=Hb9.out.trans (b9.mono Hb9.out.size)
    obtain ⟨s0,s1,s2,s3,s4⟩:=HSx.out _ hB9
    have o9:=Ho.out.below b9 (nr_ _)
    have hat:=o9.cells1 (by rw [l_]) k (by rw [l_];omega)
    have o10:Hid (OwnT w1.heap.size (((((w9.setCell ⟨g,k * 5,none⟩ (.int .i64 kd)).setCell ⟨g,k * 5+1,none⟩ (.string fm)).setCell ⟨g,k * 5+2,none⟩ (.string tn)).setCell ⟨g,k * 5+3,none⟩ (.int .i64 am)).setCell ⟨g,k * 5+4,none⟩ (.int .i64 nc)) (.slice (some ⟨g,0,none⟩) (l.length+1) c6) (holeT l k (kd,fm,tn,am,nc))):=a_ (o9.put1 (by rw [l_]) k (by rw [l_];omega) (kd,fm,tn,am,nc) (bE_ hk) (by rw [l_,l_]))
    have B10:Hid (Below w1.heap.size w1 (((((w9.setCell ⟨g,k * 5,none⟩ (.int .i64 kd)).setCell ⟨g,k * 5+1,none⟩ (.string fm)).setCell ⟨g,k * 5+2,none⟩ (.string tn)).setCell ⟨g,k * 5+3,none⟩ (.int .i64 am)).setCell ⟨g,k * 5+4,none⟩ (.int .i64 nc))):=a_ (hB9.trans (bs_ _ _ _ _ _ hge))
    generalize (holeT l k x)[k]'(by rw [l_];omega)=y at hat
    obtain ⟨yk,yf,yt,ya,yn⟩:=y
    obtain ⟨⟨q0,q1,q2,q3,q4⟩,fz⟩:=hat
    have z0:=fz (k * 5)
    have z1:=fz (k * 5+1)
    have z2:=fz (k * 5+2)
    have z3:=fz (k * 5+3)
    have z4:=fz (k * 5+4)
    simp only at q0 q1 q2 q3 q4
    have HP1:=a_ (Hsp.out (((((w9.setCell ⟨g,k * 5,none⟩ (.int .i64 kd)).setCell ⟨g,k * 5+1,none⟩ (.string fm)).setCell ⟨g,k * 5+2,none⟩ (.string tn)).setCell ⟨g,k * 5+3,none⟩ (.int .i64 am)).setCell ⟨g,k * 5+4,none⟩ (.int .i64 nc)) (Hr.out _ B10.out) (by omega) Hall.out)
    have HO:=a_ (fun V (h:RdT V (.slice (some ⟨g,0,none⟩) (l.length+1) c6) (holeT l k (kd,fm,tn,am,nc)))=>ab_ _ (holeT l k (kd,fm,tn,am,nc)) V h (by rw [l_];omega) (HmI.out k))
    rw [Hbu.out] at Hpo
    have hki:(k:Int) < ((l.length+1:Nat):Int):=by omega
    have hki2:(k:Int) < (l.length:Int)+1:=by omega
    generalize holeT l k (kd,fm,tn,am,nc)=I at o10 HO Hpo
    clear fz o9 Hbu HmI Hsp Ho
    go_wp2_with fail
    refine HP1.out.mono ?_
    rintro e w11 ⟨rfl,hb11⟩
    have B11:=a_ (B10.out.trans (hb11.mono B10.out.size))
    have o11:=a_ (o10.out.below hb11 (nr_ _))
    have HOl:=a_ (HO.out w11 o11.out.rd)
    clear HP1 o10 B10 hb11 q0 q1 q2 q3 q4 z0 z1 z2 z3 z4 s0 s1 s2 s3 s4 hB9 b9
    cases hpl:poolB l
    ·rw [hpl,Bool.false_and,if_neg (by simp)] at Hpo
     have hbE:Below w11.heap.size w11 (w11.alloc (.cells #[] 59)):=(br_ _ w11).alloc (nr_ _) _
     have rE:=a_ (Hr.out _ (B11.out.trans (hbE.mono B11.out.size)))
     have HB:=a_ (Hb.out.trans (B11.out.mono (by rw [S1.out];omega)))
     have HZ:Hid (w.heap.size<=w11.heap.size):=a_ (by have:=B11.out.size;have:=S1.out;omega)
     clear hpl
     go_wp2_with (at_builtin;refine Z_ _ rfl _ _ rfl w11.heap.size _ _ [] l rfl rfl (T_ w11 w11.heap.size (nr_ _)) rE.out (by simp;omega) (by simp) ?_;intro v12 w12 o12 hb12;obtain ⟨a12,c12,rfl⟩:=o12.rd.shape)
     go_ret2
     have:=Hpo.out
     subst this
     exact ⟨.slice a12 l.length c12,rfl,bf_ (by rw [List.nil_append] at o12;exact o12) HZ.out,HB.out.trans ((hbE.trans hb12).mono HZ.out)⟩
    ·rw [hpl,Bool.true_and] at Hpo
     clear hpl
     go_wp2_with fail
     refine HOl.out.mono ?_
     rintro e w12 ⟨rfl,hb12⟩
     have B12:=a_ (B11.out.trans (hb12.mono B11.out.size))
     have o12:=a_ (o11.out.below hb12 (nr_ _))
     clear hb12 HOl
     cases hpi:poolB I
     ·rw [hpi,if_neg (by simp)] at Hpo
      have hbE:Below w12.heap.size w12 (w12.alloc (.cells #[] 59)):=(br_ _ w12).alloc (nr_ _) _
      have rE:=a_ (Hr.out _ (B12.out.trans (hbE.mono B12.out.size)))
      have HB:=a_ (Hb.out.trans (B12.out.mono (by rw [S1.out];omega)))
      have HZ:Hid (w.heap.size<=w12.heap.size):=a_ (by have:=B12.out.size;have:=S1.out;omega)
      clear hpi
      go_wp2_with (at_builtin;refine Z_ _ rfl _ _ rfl w12.heap.size _ _ [] l rfl rfl (T_ w12 w12.heap.size (nr_ _)) rE.out (by simp;omega) (by simp) ?_;intro v13 w13 o13 hb13;obtain ⟨a13,c13,rfl⟩:=o13.rd.shape)
      go_ret2
      have:=Hpo.out
      subst this
      exact ⟨.slice a13 l.length c13,rfl,bf_ (by rw [List.nil_append] at o13;exact o13) HZ.out,HB.out.trans ((hbE.trans hb13).mono HZ.out)⟩
     ·rw [hpi,if_pos rfl] at Hpo
      have HB:=a_ (Hb.out.trans (B12.out.mono (by rw [S1.out];omega)))
      clear hpi
      go_wp2
      go_ret2
      have:=Hpo.out
      subst this
      exact ⟨.slice (some ⟨g,0,none⟩) (l.length+1) c6,rfl,bf_ o12.out (by rw [S1.out];omega),HB.out⟩
   ·rw [hless] at HL hbk
    rw [if_pos rfl] at hbk
    have Hbu:=a_ (hbu.trans hbk)
    clear hless hbk hbu
    go_wp2
    refine wp_region_quiet_below (by kernel_rfl) (by kernel_rfl) ?_
    repeat (go_big_quiet_step ((go_at_call 90;exact HL.out _ _)))
    refine wpQuiet_nil ?_
    intro _ hw'
    obtain ⟨⟨dq,osq⟩,hw''⟩:=hw'
    subst hw''
    obtain ⟨w9,hw9⟩:∃ z,grow (redrawn wr dq) osq=z:=⟨_,rfl⟩
    have b9:Below wr.heap.size wr w9:=by rw [<- hw9];exact below_regrown wr dq osq
    rw [hw9]
    clear hw9
    have hB9:Below w1.heap.size w1 w9:=Hb9.out.trans (b9.mono Hb9.out.size)
    have o9:=Ho.out.below b9 (nr_ _)
    obtain ⟨c0,c1,c2,c3,c4⟩:=HT.out.below b9 (Ho.out.lt g rfl).2
    have hat:=o9.cells1 (by rw [l_]) k (by rw [l_];omega)
    have o10:Hid (OwnT w1.heap.size (((((w9.setCell ⟨g,k * 5,none⟩ (.int .i64 pk)).setCell ⟨g,k * 5+1,none⟩ (.string pf)).setCell ⟨g,k * 5+2,none⟩ (.string pt)).setCell ⟨g,k * 5+3,none⟩ (.int .i64 pa)).setCell ⟨g,k * 5+4,none⟩ (.int .i64 pn)) (.slice (some ⟨g,0,none⟩) (l.length+1) c6) (holeT l (k - 1) (pk,pf,pt,pa,pn))):=a_ (by
     rw [<- Hdn.out]
     exact o9.put1 (by rw [l_]) k (by rw [l_];omega) (pk,pf,pt,pa,pn) Hset.out (by rw [l_,l_]))
    have B10:Hid (Below w1.heap.size w1 (((((w9.setCell ⟨g,k * 5,none⟩ (.int .i64 pk)).setCell ⟨g,k * 5+1,none⟩ (.string pf)).setCell ⟨g,k * 5+2,none⟩ (.string pt)).setCell ⟨g,k * 5+3,none⟩ (.int .i64 pa)).setCell ⟨g,k * 5+4,none⟩ (.int .i64 pn))):=a_ (hB9.trans (bs_ _ _ _ _ _ hge))
    generalize (holeT l k x)[k]'(by rw [l_];omega)=y at hat
    obtain ⟨yk,yf,yt,ya,yn⟩:=y
    obtain ⟨⟨q0,q1,q2,q3,q4⟩,fz⟩:=hat
    have z0:=fz (k * 5)
    have z1:=fz (k * 5+1)
    have z2:=fz (k * 5+2)
    have z3:=fz (k * 5+3)
    have z4:=fz (k * 5+4)
    simp only at q0 q1 q2 q3 q4 c0 c1 c2 c3 c4
    have hki:(k:Int) < ((l.length+1:Nat):Int):=by omega
    have hki2:(k:Int) < (l.length:Int)+1:=by omega
    clear fz o9 Hset Hdn Ho r0 r1 r2 r3 r4 g0 g1 g2 g3 g4 HL hB9 b9 HT
    go_wp2
    go_roundw
    case rel=>exact ⟨k - 1,(pk,pf,pt,pa,pn),by omega,by first | go_num | (congr 1;omega),o10.out,Hbu.out,B10.out⟩
    case measure=>simp [intOf];omega
  ·have hd:decide ((0:Int) < (k:Int))=false:=by simp;omega
   have hd2:¬ ((0:Int) < (k:Int)):=by omega
   have Hbu:Hid (buT l (kd,fm,tn,am,nc) l.length=k):=a_ (by rw [hbu,show k=0 by omega];rfl)
   clear hbu ho hb9
   go_wp2
   refine wp_region_quiet_below (by kernel_rfl) (by kernel_rfl) ?_
   repeat (go_big_quiet_step (fail))
   refine wpQuiet_nil ?_
   intro _ hw'
   obtain ⟨⟨dq,osq⟩,hw''⟩:=hw'
   subst hw''
   obtain ⟨w9,hw9⟩:∃ z,grow (redrawn wr dq) osq=z:=⟨_,rfl⟩
   have b9:Below wr.heap.size wr w9:=by rw [<- hw9];exact below_regrown wr dq osq
   rw [hw9]
   clear hw9
   clear r0 r1 r2 r3 r4
   have hB9:Below w1.heap.size w1 w9:=Hb9.out.trans (b9.mono Hb9.out.size)
   obtain ⟨s0,s1,s2,s3,s4⟩:=HSx.out _ hB9
   have o9:=Ho.out.below b9 (nr_ _)
   have hat:=o9.cells1 (by rw [l_]) k (by rw [l_];omega)
   have o10:Hid (OwnT w1.heap.size (((((w9.setCell ⟨g,k * 5,none⟩ (.int .i64 kd)).setCell ⟨g,k * 5+1,none⟩ (.string fm)).setCell ⟨g,k * 5+2,none⟩ (.string tn)).setCell ⟨g,k * 5+3,none⟩ (.int .i64 am)).setCell ⟨g,k * 5+4,none⟩ (.int .i64 nc)) (.slice (some ⟨g,0,none⟩) (l.length+1) c6) (holeT l k (kd,fm,tn,am,nc))):=a_ (o9.put1 (by rw [l_]) k (by rw [l_];omega) (kd,fm,tn,am,nc) (bE_ hk) (by rw [l_,l_]))
   have B10:Hid (Below w1.heap.size w1 (((((w9.setCell ⟨g,k * 5,none⟩ (.int .i64 kd)).setCell ⟨g,k * 5+1,none⟩ (.string fm)).setCell ⟨g,k * 5+2,none⟩ (.string tn)).setCell ⟨g,k * 5+3,none⟩ (.int .i64 am)).setCell ⟨g,k * 5+4,none⟩ (.int .i64 nc))):=a_ (hB9.trans (bs_ _ _ _ _ _ hge))
   generalize (holeT l k x)[k]'(by rw [l_];omega)=y at hat
   obtain ⟨yk,yf,yt,ya,yn⟩:=y
   obtain ⟨⟨q0,q1,q2,q3,q4⟩,fz⟩:=hat
   have z0:=fz (k * 5)
   have z1:=fz (k * 5+1)
   have z2:=fz (k * 5+2)
   have z3:=fz (k * 5+3)
   have z4:=fz (k * 5+4)
   simp only at q0 q1 q2 q3 q4
   have HP1:=a_ (Hsp.out (((((w9.setCell ⟨g,k * 5,none⟩ (.int .i64 kd)).setCell ⟨g,k * 5+1,none⟩ (.string fm)).setCell ⟨g,k * 5+2,none⟩ (.string tn)).setCell ⟨g,k * 5+3,none⟩ (.int .i64 am)).setCell ⟨g,k * 5+4,none⟩ (.int .i64 nc)) (Hr.out _ B10.out) (by omega) Hall.out)
   have HO:=a_ (fun V (h:RdT V (.slice (some ⟨g,0,none⟩) (l.length+1) c6) (holeT l k (kd,fm,tn,am,nc)))=>ab_ _ (holeT l k (kd,fm,tn,am,nc)) V h (by rw [l_];omega) (HmI.out k))
   rw [Hbu.out] at Hpo
   have hki:(k:Int) < ((l.length+1:Nat):Int):=by omega
   have hki2:(k:Int) < (l.length:Int)+1:=by omega
   generalize holeT l k (kd,fm,tn,am,nc)=I at o10 HO Hpo
   clear fz o9 Hbu HmI Hsp Ho
   go_wp2_with fail
   refine HP1.out.mono ?_
   rintro e w11 ⟨rfl,hb11⟩
   have B11:=a_ (B10.out.trans (hb11.mono B10.out.size))
   have o11:=a_ (o10.out.below hb11 (nr_ _))
   have HOl:=a_ (HO.out w11 o11.out.rd)
   clear HP1 o10 B10 hb11 q0 q1 q2 q3 q4 z0 z1 z2 z3 z4 s0 s1 s2 s3 s4 hB9 b9
   cases hpl:poolB l
   ·rw [hpl,Bool.false_and,if_neg (by simp)] at Hpo
    have hbE:Below w11.heap.size w11 (w11.alloc (.cells #[] 59)):=(br_ _ w11).alloc (nr_ _) _
    have rE:=a_ (Hr.out _ (B11.out.trans (hbE.mono B11.out.size)))
    have HB:=a_ (Hb.out.trans (B11.out.mono (by rw [S1.out];omega)))
    have HZ:Hid (w.heap.size<=w11.heap.size):=a_ (by have:=B11.out.size;have:=S1.out;omega)
    clear hpl
    go_wp2_with (at_builtin;refine Z_ _ rfl _ _ rfl w11.heap.size _ _ [] l rfl rfl (T_ w11 w11.heap.size (nr_ _)) rE.out (by simp;omega) (by simp) ?_;intro v12 w12 o12 hb12;obtain ⟨a12,c12,rfl⟩:=o12.rd.shape)
    go_ret2
    have:=Hpo.out
    subst this
    exact ⟨.slice a12 l.length c12,rfl,bf_ (by rw [List.nil_append] at o12;exact o12) HZ.out,HB.out.trans ((hbE.trans hb12).mono HZ.out)⟩
   ·rw [hpl,Bool.true_and] at Hpo
    clear hpl
    go_wp2_with fail
    refine HOl.out.mono ?_
    rintro e w12 ⟨rfl,hb12⟩
    have B12:=a_ (B11.out.trans (hb12.mono B11.out.size))
    have o12:=a_ (o11.out.below hb12 (nr_ _))
    clear hb12 HOl
    cases hpi:poolB I
    ·rw [hpi,if_neg (by simp)] at Hpo
     have hbE:Below w12.heap.size w12 (w12.alloc (.cells #[] 59)):=(br_ _ w12).alloc (nr_ _) _
     have rE:=a_ (Hr.out _ (B12.out.trans (hbE.mono B12.out.size)))
     have HB:=a_ (Hb.out.trans (B12.out.mono (by rw [S1.out];omega)))
     have HZ:Hid (w.heap.size<=w12.heap.size):=a_ (by have:=B12.out.size;have:=S1.out;omega)
     clear hpi
     go_wp2_with (at_builtin;refine Z_ _ rfl _ _ rfl w12.heap.size _ _ [] l rfl rfl (T_ w12 w12.heap.size (nr_ _)) rE.out (by simp;omega) (by simp) ?_;intro v13 w13 o13 hb13;obtain ⟨a13,c13,rfl⟩:=o13.rd.shape)
     go_ret2
     have:=Hpo.out
     subst this
     exact ⟨.slice a13 l.length c13,rfl,bf_ (by rw [List.nil_append] at o13;exact o13) HZ.out,HB.out.trans ((hbE.trans hb13).mono HZ.out)⟩
    ·rw [hpi,if_pos rfl] at Hpo
     have HB:=a_ (Hb.out.trans (B12.out.mono (by rw [S1.out];omega)))
     clear hpi
     go_wp2
     go_ret2
     have:=Hpo.out
     subst this
     exact ⟨.slice (some ⟨g,0,none⟩) (l.length+1) c6,rfl,bf_ o12.out (by rw [S1.out];omega),HB.out⟩
end Go.Proofs.YtamljhcmiphdgaaGreatDoor
