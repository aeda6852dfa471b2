/- slices.Insert of one order into a row of the call's own. -/
import Derived.Lib.AppendZerosOnto
import Derived.Lib.Overlaps
import Derived.Lib.SliceRun
import Derived.Laws.NewBlocks
import Derived.Test.YtamljhcmiphdgaaGreatDoorZvBkMark
import Derived.Lib.JoinLaws
set_option maxRecDepth 100000
set_option maxHeartbeats 4000000
namespace Go.Proofs.YtamljhcmiphdgaaGreatDoor
open Go.RowKit
set_option linter.unusedVariables false
theorem X_ {P:Program} (w:World) (dT sT ty elem:TypeId) (s b o dLen dCap:Nat) (a:Addr) (sLen sCap:Nat) (cs:List Value)
  (hu:P.underlying dT=some (.slice elem)) (hs:(P.info? elem).map (·.size)=some s) (hn:cs.length=Nat.min sLen dLen * s)
  (hsrc:∀ j v,cs[j]?=some v->w.cell? (a.add j)=some v) (hc:∀ j,j < cs.length->(w.cell? ⟨b,o+j,none⟩).isSome=true) (hf:∀ j,j < cs.length->w.frozen? ⟨b,o+j,none⟩=false) (h1:∀ v ∈ cs,v.oneCell'=true) :
  (Builtin.copy_ #[dT,sT] ty #[.slice (some ⟨b,o,none⟩) dLen dCap,.slice (some a) sLen sCap]).run P w=.ok (goInt (Nat.min sLen dLen)) (w.setCells b o cs):=by
 have hl:=run_loadCells_list (P:=P) w a cs hsrc
 have hst:=run_storeCells_cells (P:=P) b o cs 0 w (by simpa using hc) (by simpa using hf) h1
 cases hq:P.info? elem with
 | none=>simp [hq] at hs
 | some i =>
  have hi:i.size=s:=by simpa [hq] using hs
  simp [Builtin.copy_,run_underlying hu,Builtin.lenOf,Builtin.firstCells,sizeOf,typeInfo,hq,hi,<- hn,hl,hst]
def ovL (Y:List Value) (o:Nat) (vs:List Value):List Value:=Y.take o ++ vs ++ Y.drop (o+vs.length)
theorem jO_ {Y:List Value} {o:Nat} {v:Value} {vs:List Value} (h:o < Y.length):ovL (Y.set o v) (o+1) vs=ovL Y o (v :: vs):=by
 unfold ovL
 have e:(Y.take o ++ [Y[o]]).set o v=Y.take o ++ [v]:=by
  have hlen:(Y.take o).length=o:=by rw [List.length_take];omega
  rw [List.set_append,if_neg (by omega),hlen,Nat.sub_self]
  rfl
 rw [List.take_set,List.drop_set,if_pos (by omega),List.take_succ_eq_append_getElem h,e,List.length_cons,show o+1+vs.length=o+(vs.length+1) by omega]
 simp
theorem M_ {base g n cap s:Nat} {e:TypeId}:∀ (vs:List Value) (o:Nat) (w:World) (Y:List Value),w.ownsRow base e s (.slice (some ⟨g,0,none⟩) n cap) n Y->o+vs.length<=Y.length->(w.setCells g o vs).ownsRow base e s (.slice (some ⟨g,0,none⟩) n cap) n (ovL Y o vs)
 | [],o,w,Y,h,_=>by
  have:ovL Y o []=Y:=by unfold ovL;simp
  rw [this];exact h
 | v :: vs,o,w,Y,h,hl=>by
  rw [List.length_cons] at hl
  have h1:=(h.stored o v).1
  have h2:=M_ vs (o+1) _ _ h1 (by rw [List.length_set];omega)
  rw [jO_ (by omega)] at h2
  exact h2
theorem eK_ {base g n cap s:Nat} {e:TypeId} {w:World} {Y:List Value} (h:w.ownsRow base e s (.slice (some ⟨g,0,none⟩) n cap) n Y) (hc:n+1<=cap):∃ Z,w.ownsRow base e s (.slice (some ⟨g,0,none⟩) (n+1) cap) (n+1) Z/\Z.take (n * s)=Y/\Z.length=(n+1) * s:=by
 rcases h.2 with ⟨h0,_⟩ | ⟨g',cap',cur,hv,hb,hg,h1,h2,h3,h4⟩
 ·cases h0
 cases hv
 have hm:(n+1) * s<=cap * s:=Nat.mul_le_mul_right s hc
 have hZ:(cur.toList.take ((n+1) * s)).length=(n+1) * s:=by rw [List.length_take,Array.length_toList,h3];omega
 refine ⟨cur.toList.take ((n+1) * s),⟨hZ,.inr ⟨g,cap,cur,rfl,hb,hg,hc,h2,h3,rfl⟩⟩,?_,hZ⟩
 rw [List.take_take,<- h4]
 congr 1
 rw [Nat.add_mul];omega
theorem ov_ins {Z Y vs:List Value} {n i s:Nat} (hZ:Z.take (n * s)=Y) (hl:Z.length=(n+1) * s) (hi:i<=n) (hv:vs.length=s):ovL (ovL Z ((i+1) * s) (Y.drop (i * s))) (i * s) vs=Y.take (i * s) ++ vs ++ Y.drop (i * s):=by
 have hm:i * s<=n * s:=Nat.mul_le_mul_right s hi
 have e1:(i+1) * s=i * s+s:=by rw [Nat.add_mul,Nat.one_mul]
 have e2:(n+1) * s=n * s+s:=by rw [Nat.add_mul,Nat.one_mul]
 have hY:Y.length=n * s:=by rw [<- hZ,List.length_take,hl];omega
 have hd:(Y.drop (i * s)).length=n * s - i * s:=by rw [List.length_drop,hY]
 have ht:Z.take (i * s)=Y.take (i * s):=by rw [<- hZ,List.take_take];congr 1;omega
 have a1:ovL Z ((i+1) * s) (Y.drop (i * s))=Z.take ((i+1) * s) ++ Y.drop (i * s):=by
  unfold ovL
  have:Z.drop ((i+1) * s+(Y.drop (i * s)).length)=[]:=List.drop_eq_nil_of_le (by rw [hd];omega)
  rw [this,List.append_nil]
 rw [a1]
 unfold ovL
 rw [hv,List.take_append_of_le_length (by rw [List.length_take];omega),List.take_take,Nat.min_eq_left (by omega),ht,<- e1]
 congr 1
 rw [List.drop_append_of_le_length (by rw [List.length_take];omega),List.drop_take,Nat.sub_self,List.take_zero,List.nil_append]
theorem K_ (b:Nat):∀ (vs:List Value) (o:Nat) (w:World),w.grownBy (w.setCells b o vs) (some b)
 | [],_,w=>World.grownBy.refl _ _
 | v :: vs,o,w=>by
  have h1:=B_ w b o v
  have h2:=K_ b vs (o+1) (w.setCell ⟨b,o,none⟩ v)
  exact ⟨h2.os.trans h1.os,h2.tape.trans h1.tape,h2.output.trans h1.output,Nat.le_trans h1.size h2.size,fun k hk hn=>(h2.block k (Nat.lt_of_lt_of_le hk h1.size) hn).trans (h1.block k hk hn)⟩
theorem aG_ {P:Program} (w:World) {ops:Array Oper} {rest:List Oper} {o:Oper} {a:Act} {Q:Exit->Act->World->Prop} (hgd:o.guard=none) (d s:Operand) (t t':TypeId)
  (ho:o.op=.call { callee:=.builtin .copy,args:=#[d,s],argTypes:=#[t,t'] }) (v u:Value) (hd:a.eval d=v) (hs:a.eval s=u) {v':Value} {w':World}
  (hr:(Builtin.copy_ #[t,t'] o.type #[v,u]).run P w=.ok v' w') (h:wpList P ops Q rest (a.put o.dst v') w'):wpList P ops Q (o :: rest) a w :=
 wpList_plain hgd fun _ hK=>by
  unfold Oper.wp execOp
  simp only [ho,resolve,invoke,builtin,Sem.run_bind,Sem.run_pure,Result.andThen_ok,List.map_toArray,List.map_cons,List.map_nil,hd,hs,hr]
  exact hK _ _ h
theorem bg_ {P:Program} {ops:Array Oper} {o:Oper} {a:Act} {w:World} {K:Act->World->Prop} {Q:Exit->Act->World->Prop} {E:Prop}
  (hg:o.guard=none) (d x:Operand) (dT sT:TypeId) (hop:o.op=Op.call { callee:=Callee.builtin Builtin.copy,args:=#[d,x],argTypes:=#[dT,sT] })
  (v u:Value) (hd:a.eval d=v) (hx:a.eval x=u) {v':Value} {w':World} (hr:(Builtin.copy_ #[dT,sT] o.type #[v,u]).run P w=.ok v' w') (hK:K (a.put o.dst v') w') :
  if Region.wanted o (yielded ops a.tmps)=true then Oper.wp P o a w K Q else E:=by
 have hw:Region.wanted o (yielded ops a.tmps)=true:=by simp [Region.wanted,hg]
 rw [if_pos hw]
 unfold Oper.wp
 simp [execOp,hop,resolve,invoke,builtin,hd,hx,hr,Result.andThen]
 exact hK
theorem iE_ {Z Y vs:List Value} {n i:Nat} (hZ:Z.take (i * 5)=Y.take (i * 5)) (hl:Z.length=(n+1) * 5) (hY:Y.length=n * 5) (hi:i<=n) (hv:vs.length=5):ovL (ovL Z (i * 5) vs) ((i+1) * 5) (Y.drop (i * 5))=Y.take (i * 5) ++ vs ++ Y.drop (i * 5):=by
 have h1:(ovL Z (i * 5) vs).take ((i+1) * 5)=Y.take (i * 5) ++ vs:=by
  unfold ovL
  rw [hZ,List.take_append_of_le_length (by simp;omega),List.take_of_length_le (by simp;omega)]
 show (ovL Z (i * 5) vs).take ((i+1) * 5) ++ Y.drop (i * 5) ++ (ovL Z (i * 5) vs).drop _=_
 rw [h1]
 have h2:(ovL Z (i * 5) vs).drop ((i+1) * 5+(Y.drop (i * 5)).length)=[]:=by
  apply List.drop_eq_nil_of_le
  unfold ovL
  simp [hl,hY,hv]
  omega
 rw [h2,List.append_nil]
theorem iv_ (base n B:Nat) (v:Value) (Y vs:List Value) (w:World) (ho:w.ownsRow base 59 5 v n Y) (hB:Blk w B 59 vs) (hvl:vs.length=5) (h1v:∀ u ∈ vs,u.oneCell'=true) (hn:n<=4000000) (hbase:base<=w.heap.size) :
  Calls Tryz.prog 140 #[v,.int .i64 (n:Int),.slice (some ⟨B,0,none⟩) 1 1] w fun e w'=>∃ v',e=.returned v'/\w'.ownsRow base 59 5 v' (n+1) (Y ++ vs)/\w.grownBy w' v.ownBlock:=by
 obtain ⟨i0,hi0,hz0,hz1,hz2⟩:=info_parts Tryz.infoTx
 have Ho:=a_ ho
 have HB:=a_ hB
 have H1:=a_ h1v
 rcases ho.2 with ⟨rfl,rfl⟩ | ⟨g,cap,cur,rfl,hb,hg,h1,h2,h3,h4⟩
 ·clear ho hB h1v
  go_enter Tryz.func140,Tryz.ntmps140
  go_wp2_with (at_builtin;refine wpList_append_own _ rfl _ _ 52 rfl base 59 i0 _ 5 56 Tryz.underlying52 hi0 hz0 hz1 hz2 rfl (by decide) _ 0 Y rfl Ho.out ⟨B,0,none⟩ 1 1 vs rfl (by omega) (fun j u hj=>by rw [I_,Nat.zero_add,HB.out.cell j];exact hj) H1.out (by unfold maxLen;omega) (by omega) hbase ?_;intro v' w' ho' hg' _)
  go_ret
  exact ⟨_,rfl,ho',hg'⟩
 ·have hcm:cap<=9223372036854775807:=by unfold maxLen at h2;omega
  have hnn:n<=cap:=h1
  clear ho hB h1v hg h1 h2 h3 h4 hb
  by_cases hnc:cap=n
  ·subst hnc
   go_enter Tryz.func140,Tryz.ntmps140
   go_wp2_with (at_builtin;refine wpList_append_own _ rfl _ _ 52 rfl base 59 i0 _ 5 56 Tryz.underlying52 hi0 hz0 hz1 hz2 rfl (by decide) _ cap Y rfl Ho.out ⟨B,0,none⟩ 1 1 vs rfl (by omega) (fun j u hj=>by rw [I_,Nat.zero_add,HB.out.cell j];exact hj) H1.out (by unfold maxLen;omega) (by omega) hbase ?_;intro v' w' ho' hg' _)
   go_ret
   exact ⟨_,rfl,ho',hg'⟩
  ·have hlt:n < cap:=by omega
   go_enter Tryz.func140,Tryz.ntmps140
   go_wp2_with (at_builtin;refine wpList_append_own _ rfl _ _ 52 rfl base 59 i0 _ 5 56 Tryz.underlying52 hi0 hz0 hz1 hz2 rfl (by decide) _ n Y rfl Ho.out ⟨B,0,none⟩ 1 1 vs rfl (by omega) (fun j u hj=>by rw [I_,Nat.zero_add,HB.out.cell j];exact hj) H1.out (by unfold maxLen;omega) (by omega) hbase ?_;intro v' w' ho' hg' _)
   go_ret
   exact ⟨_,rfl,ho',hg'⟩
theorem hz_ (base g n cap i B:Nat) (Y vs:List Value) (w:World) (ho:w.ownsRow base 59 5 (.slice (some ⟨g,0,none⟩) n cap) n Y) (hB:Blk w B 59 vs) (hne:B ≠ g) (hvl:vs.length=5) (h1v:∀ u ∈ vs,u.oneCell'=true) (h1Y:∀ u ∈ Y,u.oneCell'=true) (hi:i < n) (hn:n<=4000000) (hroom:n+1<=cap) :
  Calls Tryz.prog 140 #[.slice (some ⟨g,0,none⟩) n cap,.int .i64 (i:Int),.slice (some ⟨B,0,none⟩) 1 1] w fun e w'=>∃ v',e=.returned v'/\w'.ownsRow base 59 5 v' (n+1) (Y.take (i * 5) ++ vs ++ Y.drop (i * 5))/\w.grownBy w' (some g):=by
 obtain ⟨i0,hi0,hz0,hz1,hz2⟩:=info_parts Tryz.infoTx
 have hsz:(Tryz.prog.info? 59).map (·.size)=some 5:=by rw [hi0];simp [hz1]
 obtain ⟨Z,hoZ,hZt,hZl⟩:=eK_ ho hroom
 have hYl:Y.length=n * 5:=ho.1
 have hgl:g < w.heap.size:=(World.ownsRow.lt ho g rfl).2
 have hcm:cap<=9223372036854775807:=by
  rcases ho.2 with ⟨h0,_⟩ | ⟨g',cap',cur,hv,hb,hg,h1,h2,h3,h4⟩
  ·cases h0
  ·cases hv;unfold maxLen at h2;omega
 have hshb:w.shape? g=some (59,cap * 5):=by
  rcases ho.2 with ⟨h0,_⟩ | ⟨g',cap',cur,hv,hb,hg,h1,h2,h3,h4⟩
  ·cases h0
  ·cases hv;simp [World.shape?,hg,h3]
 have hsha:w.shape? B=some (59,5):=by
  have h:=hB
  unfold Blk at h
  simp [World.shape?,h,hvl]
 have hov:∀ lb cb,(callFunc 169 #[.slice (some ⟨B,0,none⟩) 1 1,.slice (some ⟨g,(i+1) * 5,none⟩) lb cb]).run Tryz.prog w=.ok (.value (.bool false)) w:=fun lb cb=>by
  rw [run_callFunc_extern Tryz.func169 (by kernel_rfl) (by kernel_rfl) (by kernel_rfl) (e:=Extern.SlicesOverlaps.overlaps #[52,52] #[4]) (by kernel_rfl),
   Lib.run_overlaps_apart w 52 4 59 Tryz.underlying52 5 (fun W=>by simp [Go.sizeOf,typeInfo,hi0,hz1]) ⟨B,0,none⟩ ⟨g,(i+1) * 5,none⟩ 1 1 lb cb hne 59 59 5 (cap * 5) hsha hshb (by omega) (hB.frozen 0) (hB.frozen 5)]
  rfl
 have hdl:(Y.drop (i * 5)).length=(n - i) * 5:=by rw [List.length_drop,hYl,Nat.sub_mul]
 have hcell:∀ j v,Y[j]?=some v->w.cell? ⟨g,j,none⟩=some v:=fun j v hj=>by
  have hjl:j < n * 5:=by rw [<- hYl];exact (List.getElem?_eq_some_iff.1 hj).1
  rw [World.ownsRow.cellAt ho j (by omega)];exact hj
 have hsome:∀ j,j < (n+1) * 5->(w.cell? ⟨g,j,none⟩).isSome=true:=fun j hj=>by
  rw [World.ownsRow.cellAt hoZ j (by omega),List.getElem?_eq_getElem (by omega)];rfl
 have hfz:∀ j,w.frozen? ⟨g,j,none⟩=false:=fun j=>World.ownsRow.frozenAt ho j
 have hcp1:∀ ty dc sc,(Builtin.copy_ #[52,52] ty #[.slice (some ⟨g,(i+1) * 5,none⟩) (n - i) dc,.slice (some ⟨g,i * 5,none⟩) (n+1 - i) sc]).run Tryz.prog w.drew=.ok (goInt (n - i:Nat)) (w.drew.setCells g ((i+1) * 5) (Y.drop (i * 5))):=fun ty dc sc=>by
  have hmin:Nat.min (n+1 - i) (n - i)=n - i:=by simp only [Nat.min_def];split <;> omega
  have h:=X_ (P:=Tryz.prog) w.drew 52 52 ty 59 5 g ((i+1) * 5) (n - i) dc ⟨g,i * 5,none⟩ (n+1 - i) sc (Y.drop (i * 5)) Tryz.underlying52 hsz (by rw [hdl,hmin])
   (fun j v hj=>by rw [I_];exact hcell _ v (by rwa [List.getElem?_drop] at hj))
   (fun j hj=>by rw [hdl] at hj;exact hsome _ (by omega)) (fun j hj=>hfz _) (fun v hv=>h1Y v (List.mem_of_mem_drop hv))
  rw [hmin] at h;exact h
 obtain ⟨W1,hW1⟩:∃ W1,W1=w.drew.setCells g ((i+1) * 5) (Y.drop (i * 5)):=⟨_,rfl⟩
 have o1:W1.ownsRow base 59 5 (.slice (some ⟨g,0,none⟩) (n+1) cap) (n+1) (ovL Z ((i+1) * 5) (Y.drop (i * 5))):=by
  rw [hW1]
  exact M_ _ _ w.drew Z hoZ (by rw [hdl,hZl];omega)
 have g1:w.grownBy W1 (some g):=by
  rw [hW1]
  have h:=K_ g (Y.drop (i * 5)) ((i+1) * 5) w.drew
  exact ⟨h.os,h.tape,h.output,h.size,h.block⟩
 have hB1:Blk W1 B 59 vs:=(g1.block B hB.lt (fun e=>hne (Option.some.inj e))).trans hB
 have hcp2:∀ ty dc,(Builtin.copy_ #[52,52] ty #[.slice (some ⟨g,i * 5,none⟩) (n+1 - i) dc,.slice (some ⟨B,0,none⟩) 1 1]).run Tryz.prog W1=.ok (goInt (1:Nat)) (W1.setCells g (i * 5) vs):=fun ty dc=>by
  have hmin:Nat.min 1 (n+1 - i)=1:=by simp only [Nat.min_def];split <;> omega
  have h:=X_ (P:=Tryz.prog) W1 52 52 ty 59 5 g (i * 5) (n+1 - i) dc ⟨B,0,none⟩ 1 1 vs Tryz.underlying52 hsz (by rw [hvl,hmin])
   (fun j v hj=>by rw [I_,Nat.zero_add,hB1.cell j];exact hj)
   (fun j hj=>by rw [World.ownsRow.cellAt o1 (i * 5+j) (by omega),List.getElem?_eq_getElem (by rw [o1.1];omega)];rfl) (fun j hj=>World.ownsRow.frozenAt o1 _) h1v
  rw [hmin] at h;exact h
 have o2:=M_ vs (i * 5) W1 _ o1 (by rw [o1.1];omega)
 rw [ov_ins hZt hZl (by omega) hvl] at o2
 have g2:w.grownBy (W1.setCells g (i * 5) vs) (some g):=by
  have h:=K_ g vs (i * 5) W1
  exact ⟨h.os.trans g1.os,h.tape.trans g1.tape,h.output.trans g1.output,Nat.le_trans g1.size h.size,fun k hk hk2=>(h.block k (Nat.lt_of_lt_of_le hk g1.size) hk2).trans (g1.block k hk hk2)⟩
 have Ho2:=a_ o2
 have Hg2:=a_ g2
 rw [<- hW1] at hcp1
 have hz2:¬ ((i:Int)=(n:Int)):=by omega
 have hw1:IntKind.i64.wrap ((i:Int)+1)=(i:Int)+1:=by rw [IntKind.wrap_i64];omega
 have hwn:IntKind.i64.wrap ((n:Int)+1)=(n:Int)+1:=by rw [IntKind.wrap_i64];omega
 have hb1:(0:Int)<=(i:Int)+1:=by omega
 have hb1n:(0:Int)<=(n:Int)+1:=by omega
 have hin:i<=n:=by omega
 have htn:((i:Int)+1).toNat=i+1:=by omega
 have htnn:((n:Int)+1).toNat=n+1:=by omega
 have hb2:¬ (cap=i+1):=by omega
 have hb3:(i:Int)<=(n:Int)+1:=by omega
 have hb5:(n:Int)+1<=(cap:Int):=by omega
 have hb4:¬ (cap=i):=by omega
 clear ho hoZ o1 o2 g1 g2 hB hB1 hW1 hcell hsome hfz hshb hsha h1v h1Y hZt hZl hYl hdl hgl
 go_enter Tryz.func140,Tryz.ntmps140
 go_wp2_with (simp only [hov])
 go_region_law (refine bg_ rfl _ _ 52 52 rfl _ _ (by simp [Act.eval,Act.put]) (by simp [Act.eval,Act.put]) (hcp1 _ _ _) ?_)
 go_wp2_with (at_builtin;refine aG_ _ rfl _ _ 52 52 rfl _ _ rfl rfl (hcp2 _ _) ?_)
 go_ret
 exact ⟨_,rfl,Ho2.out,Hg2.out⟩
theorem ht_ (base g n cap i B:Nat) (Y vs:List Value) (w:World) (ho:w.ownsRow base 59 5 (.slice (some ⟨g,0,none⟩) n cap) n Y) (hB:Blk w B 59 vs) (hvl:vs.length=5) (h1v:∀ u ∈ vs,u.oneCell'=true) (h1Y:∀ u ∈ Y,u.oneCell'=true) (hi:i < n) (hn:n<=4000000) (hroom:cap < n+1) (hbase:base<=w.heap.size) :
  Calls Tryz.prog 140 #[.slice (some ⟨g,0,none⟩) n cap,.int .i64 (i:Int),.slice (some ⟨B,0,none⟩) 1 1] w fun e w'=>∃ v',e=.returned v'/\w'.ownsRow base 59 5 v' (n+1) (Y.take (i * 5) ++ vs ++ Y.drop (i * 5))/\w.grownBy w' (some g):=by
 obtain ⟨i0,hi0,hz0,hz1,hz2⟩:=info_parts Tryz.infoTx
 have hsz:(Tryz.prog.info? 59).map (·.size)=some 5:=by rw [hi0];simp [hz1]
 have hYl:Y.length=n * 5:=ho.1
 have hgl:g < w.heap.size:=(World.ownsRow.lt ho g rfl).2
 have hcn:n<=cap:=by
  rcases ho.2 with ⟨h0,_⟩ | ⟨g',cap',cur,hv,hb,hg,h1,h2,h3,h4⟩
  ·cases h0
  ·cases hv;exact h1
 obtain rfl:cap=n:=by omega
 have hcell:∀ j v,Y[j]?=some v->w.cell? ⟨g,j,none⟩=some v:=fun j v hj=>by
  have hjl:j < cap * 5:=by rw [<- hYl];exact (List.getElem?_eq_some_iff.1 hj).1
  rw [World.ownsRow.cellAt ho j (by omega)];exact hj
 have hik:i+(cap+1 - i)=cap+1:=by omega
 have hold:(Builtin.firstCells i0.size i (.slice (some ⟨g,0,none⟩) i cap)).run Tryz.prog w.drew=.ok (Y.take (i * 5)).toArray w.drew:=by
  rw [hz1]
  exact run_firstCells_some w.drew 5 i ⟨g,0,none⟩ i cap (Y.take (i * 5)) (by rw [List.length_take];omega) (fun j v hj=>by
   rw [I_,Nat.zero_add]
   rw [List.getElem?_take] at hj
   split at hj
   ·exact hcell j v hj
   ·cases hj)
 obtain ⟨G,hG⟩:∃ G,G=grownCap w (cap+1) cap 59:=⟨_,rfl⟩
 obtain ⟨ROW,hROW⟩:∃ ROW:Array Value,ROW=(Y.take (i * 5)).toArray ++ Builtin.zeroCells (Value.cells (.agg #[.int .i64 0,.string { data:=#[] },.string { data:=#[] },.int .i64 0,.int .i64 0])) (cap+1 - i) ++ Builtin.zeroCells (Value.cells (.agg #[.int .i64 0,.string { data:=#[] },.string { data:=#[] },.int .i64 0,.int .i64 0])) (G - (cap+1)):=⟨_,rfl⟩
 obtain ⟨W1,hW1⟩:∃ W1,W1=w.drew.alloc (.cells ROW 59):=⟨_,rfl⟩
 have hrz:∀ ty,(Builtin.append_ #[52,3] ty #[.slice (some ⟨g,0,none⟩) i cap,.int .i64 ((cap:Int)+1 - (i:Int))]).run Tryz.prog w=.ok (.slice (some ⟨w.heap.size,0,none⟩) (cap+1) G) W1:=fun ty=>by
  have h:=Lib.run_append_grow_zeros (P:=Tryz.prog) w 52 3 ty 59 i0 _ .i64 .i64 Tryz.underlying52 Tryz.underlying3 hi0 hz0 (some ⟨g,0,none⟩) i cap (Y.take (i * 5)) hold (cap+1 - i) (by omega) (by omega) (by omega) (by omega) (by rw [hz2];omega) (by rw [hz2,hik];exact growslice_fits (by omega) (by omega))
  rw [hik,<- hG,<- hROW,<- hW1,show (((cap+1 - i:Nat):Nat):Int)=(cap:Int)+1 - (i:Int) by omega] at h
  exact h
 have hGn:cap+1<=G:=by rw [hG];exact grownCap_ge w _ _ _
 have hGm:G<=maxLen:=by rw [hG];exact grownCap_le_maxLen w (cap+1) cap 59 (by unfold maxLen;omega)
 have hG63:G<=9223372036854775807:=by unfold maxLen at hGm;omega
 have hRs:ROW.size=G * 5:=by
  rw [hROW]
  simp only [Array.size_append,List.size_toArray,size_zeroCells,List.length_take,hYl]
  simp [Value.cells]
  omega
 have o0:W1.ownsRow base 59 5 (.slice (some ⟨w.heap.size,0,none⟩) (cap+1) G) (cap+1) (ROW.toList.take ((cap+1) * 5)):=by
  rw [hW1]
  exact ⟨by rw [List.length_take,Array.length_toList,hRs];omega,.inr ⟨w.heap.size,G,ROW,rfl,hbase,heap_alloc_new w.drew _,hGn,hGm,hRs,rfl⟩⟩
 have g0:w.grownBy W1 (some g):=by rw [hW1];exact ⟨rfl,rfl,rfl,by simp,fun k hk _=>heap_alloc_old w.drew _ hk⟩
 have n1:∀ k,k < w.heap.size->W1.heap[k]?=w.heap[k]?:=fun k hk=>by rw [hW1];exact heap_alloc_old w.drew _ hk
 have hZt:(ROW.toList.take ((cap+1) * 5)).take (i * 5)=Y.take (i * 5):=by
  rw [List.take_take,Nat.min_eq_left (by omega),hROW]
  simp only [Array.toList_append,List.append_assoc]
  rw [List.take_append_of_le_length (by simp;omega),List.take_of_length_le (by simp;omega)]
 have hB1:Blk W1 B 59 vs:=(n1 B hB.lt).trans hB
 have hdl:(Y.drop (i * 5)).length=(cap - i) * 5:=by rw [List.length_drop,hYl,Nat.sub_mul]
 have hcpA:∀ ty dc,(Builtin.copy_ #[52,52] ty #[.slice (some ⟨w.heap.size,i * 5,none⟩) (cap+1 - i) dc,.slice (some ⟨B,0,none⟩) 1 1]).run Tryz.prog W1=.ok (goInt (1:Nat)) (W1.setCells w.heap.size (i * 5) vs):=fun ty dc=>by
  have hmin:Nat.min 1 (cap+1 - i)=1:=by simp only [Nat.min_def];split <;> omega
  have h:=X_ (P:=Tryz.prog) W1 52 52 ty 59 5 w.heap.size (i * 5) (cap+1 - i) dc ⟨B,0,none⟩ 1 1 vs Tryz.underlying52 hsz (by rw [hvl,hmin])
   (fun j v hj=>by rw [I_,Nat.zero_add,hB1.cell j];exact hj)
   (fun j hj=>by rw [World.ownsRow.cellAt o0 (i * 5+j) (by omega),List.getElem?_eq_getElem (by rw [o0.1];omega)];rfl) (fun j hj=>World.ownsRow.frozenAt o0 _) h1v
  rw [hmin] at h;exact h
 obtain ⟨W2,hW2⟩:∃ W2,W2=W1.setCells w.heap.size (i * 5) vs:=⟨_,rfl⟩
 have o1:W2.ownsRow base 59 5 (.slice (some ⟨w.heap.size,0,none⟩) (cap+1) G) (cap+1) (ovL (ROW.toList.take ((cap+1) * 5)) (i * 5) vs):=by
  rw [hW2];exact M_ _ _ W1 _ o0 (by rw [o0.1];omega)
 have n2:∀ k,k < w.heap.size->W2.heap[k]?=w.heap[k]?:=fun k hk=>by
  have h:=K_ w.heap.size vs (i * 5) W1
  rw [hW2]
  exact (h.block k (Nat.lt_of_lt_of_le hk g0.size) (fun e=>by cases e;omega)).trans (n1 k hk)
 have hcpB:∀ ty dc sc,(Builtin.copy_ #[52,52] ty #[.slice (some ⟨w.heap.size,(i+1) * 5,none⟩) (cap - i) dc,.slice (some ⟨g,i * 5,none⟩) (cap - i) sc]).run Tryz.prog W2.drew=.ok (goInt (cap - i:Nat)) (W2.drew.setCells w.heap.size ((i+1) * 5) (Y.drop (i * 5))):=fun ty dc sc=>by
  have hmin:Nat.min (cap - i) (cap - i)=cap - i:=by simp only [Nat.min_def];split <;> omega
  have h:=X_ (P:=Tryz.prog) W2.drew 52 52 ty 59 5 w.heap.size ((i+1) * 5) (cap - i) dc ⟨g,i * 5,none⟩ (cap - i) sc (Y.drop (i * 5)) Tryz.underlying52 hsz (by rw [hdl,hmin])
   (fun j v hj=>by
    rw [I_]
    have hc:=hcell (i * 5+j) v (by rwa [List.getElem?_drop] at hj)
    have hd:W2.drew.heap[g]?=w.heap[g]?:=n2 g hgl
    simp only [World.cell?] at hc ⊢
    rw [hd]
    exact hc)
   (fun j hj=>by
    rw [hdl] at hj
    show (W2.cell? _).isSome=true
    rw [World.ownsRow.cellAt o1 ((i+1) * 5+j) (by omega),List.getElem?_eq_getElem (by rw [o1.1];omega)];rfl) (fun j hj=>World.ownsRow.frozenAt o1 _) (fun v hv=>h1Y v (List.mem_of_mem_drop hv))
  rw [hmin] at h;exact h
 have o2:(W2.drew.setCells w.heap.size ((i+1) * 5) (Y.drop (i * 5))).ownsRow base 59 5 (.slice (some ⟨w.heap.size,0,none⟩) (cap+1) G) (cap+1) _:=M_ (Y.drop (i * 5)) ((i+1) * 5) W2.drew _ o1 (by rw [o1.1,hdl];omega)
 rw [iE_ hZt o0.1 hYl (by omega) hvl] at o2
 have g2:w.grownBy (W2.drew.setCells w.heap.size ((i+1) * 5) (Y.drop (i * 5))) (some g):=by
  have h1:=K_ w.heap.size vs (i * 5) W1
  rw [<- hW2] at h1
  have h:=K_ w.heap.size (Y.drop (i * 5)) ((i+1) * 5) W2.drew
  exact ⟨h.os.trans (h1.os.trans g0.os),h.tape.trans (h1.tape.trans g0.tape),h.output.trans (h1.output.trans g0.output),Nat.le_trans (Nat.le_trans g0.size h1.size) h.size,fun k hk hk2=>(h.block k (Nat.lt_of_lt_of_le (Nat.lt_of_lt_of_le hk g0.size) h1.size) (fun e=>by cases e;omega)).trans (n2 k hk)⟩
 have Ho2:=a_ o2
 have Hg2:=a_ g2
 rw [<- hW2] at hcpA
 have hz2':¬ ((i:Int)=(cap:Int)):=by omega
 have hw1:IntKind.i64.wrap ((i:Int)+1)=(i:Int)+1:=by rw [IntKind.wrap_i64];omega
 have hwn:IntKind.i64.wrap ((cap:Int)+1)=(cap:Int)+1:=by rw [IntKind.wrap_i64];omega
 have hb1:(0:Int)<=(i:Int)+1:=by omega
 have hin:i<=cap:=by omega
 have htn:((i:Int)+1).toNat=i+1:=by omega
 have hb3:(i:Int)<=(cap:Int):=by omega
 have hb4:¬ (cap=i):=by omega
 have hb6:¬ (G=i):=by omega
 have hb7:¬ (G=i+1):=by omega
 clear ho o0 o1 o2 g0 g2 n1 n2 hB hB1 hW1 hW2 hcell h1v h1Y hZt hYl hdl hgl hROW hRs hG hold hik hGm
 go_enter Tryz.func140,Tryz.ntmps140
 go_wp2_with (first
  | (at_builtin;refine Lib.wpList_append_run _ rfl _ _ _ _ rfl _ _ rfl rfl _ _ (hrz _) ?_)
  | (at_builtin;refine aG_ _ rfl _ _ 52 52 rfl _ _ rfl rfl (hcpA _ _) ?_))
 go_region_law (refine bg_ rfl _ _ 52 52 rfl _ _ (by simp [Act.eval,Act.put]) (by simp [Act.eval,Act.put]) (hcpB _ _ _) ?_)
 go_wp2
 go_ret
 exact ⟨_,rfl,Ho2.out,Hg2.out⟩
end Go.Proofs.YtamljhcmiphdgaaGreatDoor
