/- A signature. -/
import Derived.Test.YtfdbedenlbikgaaZoVtEq
import Derived.Test.YtfdbedenlbikgaaZoNdTo
import Derived.Test.YtfdbedenlbikgaaZoMgMem
set_option maxRecDepth 20000
set_option maxHeartbeats 4000000
namespace Go.Proofs.Ytfdbedenlbikgaa
open Go.RowKit
set_option linter.unusedVariables false
def Szd (P:Prop) (m:Nat) (w:World) (e:Ending) (w':World):Prop:=∃ r:Int,e=.returned (.int .i64 r)/\(0<=r->P/\r<=(m:Int))/\Below w.heap.size w w'
theorem szuLedger (e:Int) (v:Value) (l:List Ac) (m:Nat) (w:World) (hr:RdA w v l) (hm:m<=4000000) (hl:l.length<=maxLen) (hs:∀ a ∈ l,a.1.size<=maxLen/\a.2.2.2.2.length<=maxLen) :
    Calls Try.prog 12 #[lgV e v,.int .i64 (m:Int)] w fun en w'=>Szd (l.length<=4000000/\∀ a ∈ l,a.2.2.2.2.length<=4000000) m w en w':=by
  have em:maxLen<=9223372036854775807:=by unfold maxLen;omega
  refine (szLedger_any e v l m w hr (by omega) (by omega) (fun a ha=>by have:=hs a ha;omega)).mono ?_
  rintro en w' ⟨r,h1,h2,h3⟩
  exact ⟨r,h1,fun h=>by
    obtain ⟨a,b⟩:=h2 h
    exact ⟨⟨by omega,fun x hx=>by have:=totA_at l x hx;unfold wgA at this;omega⟩,b⟩,h3⟩
theorem szuVal (v:Value) (l:List Vl) (m:Nat) (w:World) (hr:RdV w v l) (hm:m<=4000000) (hl:l.length<=maxLen) (hs:∀ a ∈ l,a.1.size<=maxLen) :
    Calls Try.prog 49 #[v,.int .i64 (m:Int)] w fun en w'=>Szd (l.length<=4000000) m w en w':=by
  have em:maxLen<=9223372036854775807:=by unfold maxLen;omega
  refine (szValN_any v l m w hr (by omega) (by omega) (fun a ha=>by have:=hs a ha;omega)).mono ?_
  rintro en w' ⟨r,h1,h2,h3⟩
  exact ⟨r,h1,fun h=>by have:=h2 h;exact ⟨by omega,by omega⟩,h3⟩
theorem szuBlock (v:Value) (l:List Bk) (m:Nat) (w:World) (hr:RdKs w v l) (hm:m<=4000000) (hl:l.length<=maxLen) (hs:∀ b ∈ l,FitK b) :
    Calls Try.prog 15 #[v,.int .i64 (m:Int)] w fun en w'=>Szd (l.length<=4000000/\∀ b ∈ l,FewK b) m w en w':=by
  refine (szBlockSN_any v l m w hr (by omega) hl hs).mono ?_
  rintro en w' ⟨r,h1,h2,h3⟩
  exact ⟨r,h1,fun h=>by
    have a:=h2 h
    exact ⟨⟨by omega,fun b hb=>by
      have t:=totK_at l b hb
      have f:=hs b hb
      unfold wgK at t
      exact ⟨by omega,by omega,by omega,by omega,by omega,f.qs,f.ws,f.ts,f.ns,f.ms,f.rs⟩⟩,by omega⟩,h3⟩
theorem szuQc (r b:Int) (v:Value) (l:List ByteArray) (m:Nat) (w:World) (hr:RdS w v l) (hm:m<=4000000) (hl:l.length<=maxLen) (hs:∀ s ∈ l,s.size<=maxLen) :
    Calls Try.prog 50 #[qcV r b v,.int .i64 (m:Int)] w fun en w'=>Szd (l.length<=4000000) m w en w':=by
  have em:maxLen<=9223372036854775807:=by unfold maxLen;omega
  refine (szQcN_any r b v l m w hr (by omega) (by omega) (fun a ha=>by have:=hs a ha;omega)).mono ?_
  rintro en w' ⟨r,h1,h2,h3⟩
  exact ⟨r,h1,fun h=>by have:=h2 h;exact ⟨by omega,by omega⟩,h3⟩
theorem szuTc (r:Int) (v u:Value) (l:List ByteArray) (n:List Int) (m:Nat) (w:World) (hr:RdS w v l) (hi:RdI w u n) (hm:m<=4000000) (hl:l.length<=maxLen) (hs:∀ s ∈ l,s.size<=maxLen) (hn:n.length<=maxLen) :
    Calls Try.prog 51 #[tcV r v u,.int .i64 (m:Int)] w fun en w'=>Szd (l.length<=4000000/\n.length<=4000000) m w en w':=by
  have em:maxLen<=9223372036854775807:=by unfold maxLen;omega
  refine (szTcN_any r v u l n m w hr hi (by omega) (by omega) (fun a ha=>by have:=hs a ha;omega) (by omega)).mono ?_
  rintro en w' ⟨r,h1,h2,h3⟩
  exact ⟨r,h1,fun h=>by have:=h2 h;exact ⟨⟨by omega,by omega⟩,by omega⟩,h3⟩
theorem szuVote (v:Value) (l:List Tr) (m:Nat) (w:World) (hr:RdR w v l) (hm:m<=4000000) (hl:l.length<=maxLen) (hs:∀ a ∈ l,a.2.2.size<=maxLen) :
    Calls Try.prog 52 #[v,.int .i64 (m:Int)] w fun en w'=>Szd (l.length<=4000000) m w en w':=by
  have em:maxLen<=9223372036854775807:=by unfold maxLen;omega
  refine (szVoteS_any v l m w hr (by omega) (by omega) (fun a ha=>by have:=hs a ha;omega)).mono ?_
  rintro en w' ⟨r,h1,h2,h3⟩
  exact ⟨r,h1,fun h=>by have:=h2 h;exact ⟨by omega,by omega⟩,h3⟩
theorem szuGone (v:Value) (l:List Tr) (m:Nat) (w:World) (hr:RdR w v l) (hm:m<=4000000) (hl:l.length<=maxLen) (hs:∀ a ∈ l,a.2.2.size<=maxLen) :
    Calls Try.prog 53 #[v,.int .i64 (m:Int)] w fun en w'=>Szd (l.length<=4000000) m w en w':=by
  have em:maxLen<=9223372036854775807:=by unfold maxLen;omega
  refine (szGoneS_any v l m w hr (by omega) (by omega) (fun a ha=>by have:=hs a ha;omega)).mono ?_
  rintro en w' ⟨r,h1,h2,h3⟩
  exact ⟨r,h1,fun h=>by have:=h2 h;exact ⟨by omega,by omega⟩,h3⟩
theorem szuInt (v:Value) (l:List Int) (m:Nat) (w:World) (hr:RdI w v l) (hm:m<=4000000) (hl:l.length<=maxLen) :
    Calls Try.prog 54 #[v,.int .i64 (m:Int)] w fun en w'=>Szd (l.length<=4000000) m w en w':=by
  have em:maxLen<=9223372036854775807:=by unfold maxLen;omega
  refine (szIntN_any v l m w hr (by omega) (by omega)).mono ?_
  rintro en w' ⟨r,h1,h2,h3⟩
  exact ⟨r,h1,fun h=>by have:=h2 h;exact ⟨by omega,by omega⟩,by rw [h3];exact Below.refl _ _⟩
theorem szuTx (v:Value) (l:List Tx5) (m:Nat) (w:World) (hr:RdT w v l) (hm:m<=4000000) (hl:l.length<=maxLen) (hs:∀ t ∈ l,t.2.1.size<=maxLen/\t.2.2.1.size<=maxLen) :
    Calls Try.prog 55 #[v,.int .i64 (m:Int)] w fun en w'=>Szd (l.length<=4000000) m w en w':=by
  have em:maxLen<=9223372036854775807:=by unfold maxLen;omega
  refine (szTxN_any v l m w hr (by omega) (by omega) (fun a ha=>by have:=hs a ha;omega)).mono ?_
  rintro en w' ⟨r,h1,h2,h3⟩
  exact ⟨r,h1,fun h=>by have:=h2 h;exact ⟨by omega,by omega⟩,h3⟩
theorem szuVt (r k:Int) (s:ByteArray) (m:Nat) (w:World) (hm:m<=4000000) (hs:s.size<=maxLen) :
    Calls Try.prog 57 #[.agg #[.int .i64 r,.int .i64 k,.string s],.int .i64 (m:Int)] w fun en w'=>Szd True m w en w':=by
  have em:maxLen<=9223372036854775807:=by unfold maxLen;omega
  refine (szVote_any r k s m w (by omega) (by omega)).mono ?_
  rintro en w' ⟨r,h1,h2,h3⟩
  exact ⟨r,h1,fun h=>⟨trivial,h2 h⟩,h3⟩
theorem szuGn (r k:Int) (s:ByteArray) (m:Nat) (w:World) (hm:m<=4000000) (hs:s.size<=maxLen) :
    Calls Try.prog 58 #[.agg #[.int .i64 r,.int .i64 k,.string s],.int .i64 (m:Int)] w fun en w'=>Szd True m w en w':=by
  have em:maxLen<=9223372036854775807:=by unfold maxLen;omega
  refine (szGone_any r k s m w (by omega) (by omega)).mono ?_
  rintro en w' ⟨r,h1,h2,h3⟩
  exact ⟨r,h1,fun h=>⟨trivial,h2 h⟩,h3⟩
theorem szuStr (v:Value) (l:List ByteArray) (m:Nat) (w:World) (hr:RdS w v l) (hm:m<=4000000) (hl:l.length<=maxLen) (hs:∀ s ∈ l,s.size<=maxLen) :
    Calls Try.prog 13 #[v,.int .i64 (m:Int)] w fun en w'=>Szd (l.length<=4000000) m w en w':=by
  have em:maxLen<=9223372036854775807:=by unfold maxLen;omega
  refine (szStringS_any v l m w hr (by omega) (by omega) (fun a ha=>by have:=hs a ha;omega)).mono ?_
  rintro en w' ⟨h1,h2⟩
  refine ⟨_,h1,fun h=>?_,by rw [h2];exact Below.refl _ _⟩
  unfold szR at h ⊢
  split at h <;> rename_i h'
  · rw [if_pos h'];exact ⟨by omega,by omega⟩
  · omega
structure FewSn (p:Sn):Prop
structure FitSn (p:Sn):Prop where
  wkd:(Lit.int .i64 p.kd).wf=true
  wep:(Lit.int .i64 p.ep).wf=true
  wrd:(Lit.int .i64 p.rd).wf=true
  wwt:(Lit.int .i64 p.wt).wf=true
  zwo:p.wo.size<=maxLen
theorem Try.infoSn:(Try.prog.info? 107).map (·.size)=some 5:=by kernel_rfl
theorem toSig_any (p:Sn) (u:Sv) (w:World) (hr:RdSn w p u) (hf:FewSn p) :
    Calls Try.prog 41 #[snV p u] w fun e w'=>∃ u',e=.returned (snV p u')/\OwnSn w.heap.size w'.heap.size w' p u'/\Below w.heap.size w w':=by
  obtain ⟨kd,ep,rd,wt,wo⟩:=p
  simp only [snV]
  go_enter Try.func41,Try.ntmps41
  go_wp2
  refine bodyPost_ret (v:=.agg #[.int .i64 kd,.int .i64 ep,.int .i64 rd,.int .i64 wt,.string wo]) (by simp [results,Try.f41,go_sem]) rfl ?_
  exact ⟨⟨⟩,rfl,⟨⟨w.heap.size,Nat.le_refl _,by simp;omega,trivial⟩⟩,((((Below.refl _ w).alloc (Nat.le_refl _) _).alloc (by simp) _).alloc (by simp;omega) _)⟩
theorem snC_one {w:World} {p:Sn} {u:Sv} (h:RdSn w p u):(snC p u).all (·.oneCell')=true:=by
  simp [snC,Value.oneCell']
theorem eqSig_same (p:Sn) (u t:Sv) (w:World) (hr:RdSn w p u) (ht:RdSn w p t) (hf:FewSn p) :
    Calls Try.prog 46 #[snV p u,snV p t] w fun e w'=>e=.returned (.bool true)/\Below w.heap.size w w':=by
  obtain ⟨kd,ep,rd,wt,wo⟩:=p
  simp only [snV]
  have HB:=hide (((Below.refl _ w).alloc (Nat.le_refl _) (.cells #[.int .i64 kd,.int .i64 ep,.int .i64 rd,.int .i64 wt,.string wo] 107)).alloc (by simp) (.cells #[.int .i64 kd,.int .i64 ep,.int .i64 rd,.int .i64 wt,.string wo] 107))
  go_enter Try.func46,Try.ntmps46
  go_wp2
  go_ret
  exact ⟨rfl,HB.out⟩
theorem szSig_any (p:Sn) (u:Sv) (m:Nat) (w:World) (hr:RdSn w p u) (hm:m<=4000000) (hf:FitSn p) :
    Calls Try.prog 36 #[snV p u,.int .i64 (m:Int)] w fun e w'=>Szd (FewSn p) m w e w':=by
  have em:maxLen<=9223372036854775807:=by unfold maxLen;omega
  have hz:=hf.zwo
  clear hf
  obtain ⟨kd,ep,rd,wt,wo⟩:=p
  simp only [snV] at *
  have HB:=hide ((Below.refl _ w).alloc (Nat.le_refl _) (.cells #[.int .i64 kd,.int .i64 ep,.int .i64 rd,.int .i64 wt,.string wo] 94))
  have w1:IntKind.i64.wrap ((m:Int) - (wo.size:Int))=m - wo.size:=by rw [IntKind.wrap_i64];omega
  by_cases h1:(m:Int) - (wo.size:Int) < 0
  · go_enter Try.func36,Try.ntmps36
    go_wp2
    go_ret
    exact ⟨-1,rfl,fun h=>by omega,HB.out⟩
  · go_enter Try.func36,Try.ntmps36
    go_wp2
    go_ret
    exact ⟨(m:Int) - wo.size,rfl,fun h=>⟨⟨⟩,by omega⟩,HB.out⟩
theorem Try.infoRSn:(Try.prog.info? 107).map (fun i=>(i.zero,i.size,i.bytes))=some (some (.agg #[.int .i64 0,.int .i64 0,.int .i64 0,.int .i64 0,.string { data:=#[] }]),5,48):=by kernel_rfl
theorem Try.infoWSn:(Try.prog.info? 94).map (·.size)=some 5:=by kernel_rfl
theorem toSigS_any (v:Value) (l:List Sn) (w:World) (hr:RdSs w v l) (hl:l.length<=4000000) (hall:∀ a ∈ l,FewSn a) :
    Calls Try.prog 22 #[v] w fun e w'=>∃ v',e=.returned v'/\OwnSx w.heap.size w'.heap.size w' v' l/\Below w.heap.size w w':=by
  obtain ⟨i0,hi,hz0,hz1,hz2⟩:=info_parts Try.infoRSn
  obtain ⟨Z0,rfl,hr⟩:=hr
  have hl':Z0.length<=4000000:=by simpa using hl
  rcases hr with ⟨a,cap,rfl,rfl,-⟩ | ⟨b,off,cap,h0,rfl,h1,h2,h3,h4⟩
  · go_enter Try.func22,Try.ntmps22
    go_wp2_with (refine wpList_make_full _ rfl _ _ 39 rfl w.heap.size 107 i0 (.agg #[.int .i64 0,.int .i64 0,.int .i64 0,.int .i64 0,.string { data:=#[] }]) 5 Try.underlying39 hi hz0 hz1 .i64 .i64 _ _ 0 rfl rfl rfl rfl (by omega) (by unfold maxLen;omega) (Nat.le_refl _) ?_;intro w1 hown hgrow)
    have hb1:Below w.heap.size w w1:=(Below.refl _ _).grown hgrow (Nat.le_refl _) (by intro k hk;cases hk)
    refine wp_loop_rounds 1 ?_
    rw [rounds_succ]
    go_wp2
    go_ret
    have e:=made_flat (Value.agg #[.int .i64 0,.int .i64 0,.int .i64 0,.int .i64 0,.string { data:=#[] }]).cells 5 0 rfl (by omega)
    rw [e] at hown
    exact ⟨_,rfl,⟨[],rfl,hown,top_row hown,Parts.nil _ _ _ _ _⟩,hb1⟩
  · obtain ⟨N,hN⟩:∃ N,Z0.length=N:=⟨_,rfl⟩
    rw [hN] at h1 hl' ⊢
    go_enter Try.func22,Try.ntmps22
    go_wp2_with (refine wpList_make_full _ rfl _ _ 39 rfl w.heap.size 107 i0 (.agg #[.int .i64 0,.int .i64 0,.int .i64 0,.int .i64 0,.string { data:=#[] }]) 5 Try.underlying39 hi hz0 hz1 .i64 .i64 _ _ N rfl rfl rfl rfl (by rw [hz2];omega) (by unfold maxLen;omega) (Nat.le_refl _) ?_;intro w1 hown hgrow)
    have hb1:Below w.heap.size w w1:=(Below.refl _ _).grown hgrow (Nat.le_refl _) (by intro k hk;cases hk)
    have HN:=hide hN
    have H4:=hide h4
    have HA:=hide hall
    clear hN h4 hall
    go_loopw [4] (fun i wr=>∃ (k:Nat) (Z:List (Sn × Sv)),k<=N/\i=.int .i64 k/\Z.map (·.1)=(Z0.map (·.1)).take k/\wr.ownsRow w.heap.size 107 5 (.slice (some ⟨w.heap.size,0,none⟩) N N) N (prt (Z.map (fun q=>snC q.1 q.2)) snCZ N).flatten/\Parts (fun a b w q=>OwnSn a b w q.1 q.2) w.heap.size wr.heap.size (some w.heap.size) wr Z/\Below w.heap.size w wr)
      (fun i _=>N - (intOf i).toNat)
    case atStart =>
      refine ⟨0,[],Nat.zero_le _,rfl,rfl,?_,Parts.nil _ _ _ _ _,hb1⟩
      rw [List.map_nil,prt_zero]
      have e:=made_flat (Value.agg #[.int .i64 0,.int .i64 0,.int .i64 0,.int .i64 0,.string { data:=#[] }]).cells 5 N rfl (by omega)
      rw [e] at hown
      exact hown
    case round =>
      obtain ⟨k,Z,hk,rfl,hZ,ho,hpt,hb⟩:=hrel
      clear hown hgrow hb1
      have hZl:(Z.map (fun q=>snC q.1 q.2)).length=k:=by have:=congrArg List.length hZ;simp at this;simp;have:=HN.out;omega
      by_cases hlt:k < N
      · have hk0:k < Z0.length:=by rw [HN.out];exact hlt
        have hrg:=range_below (H4.out k hk0).1 hb h3
        have HT:=hide (toSig_any Z0[k].1 Z0[k].2 wr ((H4.out k hk0).2.below hb (Nat.le_refl _)) (HA.out _ (List.mem_map.2 ⟨_,List.getElem_mem hk0,rfl⟩)))
        have hli:(k:Int) < (N:Int):=by omega
        have psz:=prt_sz 5 (Z.map (fun q=>snC q.1 q.2)) snCZ N (mapC_sz snC_sz Z) rfl
        have plen:=prt_len (Z.map (fun q=>snC q.1 q.2)) snCZ N (by omega)
        have Hput:Hid (∀ u':Sv,setAll (prt (Z.map (fun q=>snC q.1 q.2)) snCZ N).flatten (k * 5) (snC Z0[k].1 u')=(prt ((Z ++ [(Z0[k].1,u')]).map (fun q=>snC q.1 q.2)) snCZ N).flatten):=hide (fun u'=>by
          rw [setAll_flat 5 (snC Z0[k].1 u') _ k (by rw [plen];exact hlt) psz rfl,prt_next _ _ _ _ k hZl.symm hlt,List.map_append]
          rfl)
        have HZ2:Hid (∀ u':Sv,(Z ++ [(Z0[k].1,u')]).map (·.1)=(Z0.map (·.1)).take (k+1)):=hide (fun u'=>by rw [List.map_append,hZ,List.take_succ_eq_append_getElem (by simpa using hk0)];simp)
        have Hln:Hid (k * 5+5<=(prt (Z.map (fun q=>snC q.1 q.2)) snCZ N).flatten.length):=hide (by rw [flat_len 5 _ psz,plen];omega)
        have Hpt:=hide hpt
        have hgl:w.heap.size < wr.heap.size:=(World.ownsRow.lt ho w.heap.size rfl).2
        have Ho:=hide ho
        have hil:(Try.prog.info? 94).map (·.size)=some (snC Z0[k].1 Z0[k].2).length:=Try.infoWSn
        rw [show snV Z0[k].1 Z0[k].2=.agg (snC Z0[k].1 Z0[k].2).toArray from rfl] at HT
        have Hil:=hide hil
        have Hrg:=hide hrg
        clear hpt psz plen hZl hZ ho hrg hil
        generalize snC Z0[k].1 Z0[k].2=cs at HT Hil Hrg
        generalize Z0[k].1=p at HT Hput HZ2
        go_wp2_with (first
          | (refine wpList_load_mid rfl 94 _ rfl b (off+k * 5) rfl cs _ Hrg.out Try.underlying94 rfl Hil.out ?_)
          | fail)
        refine HT.out.mono ?_
        rintro e w2 ⟨u',rfl,ho',hb2⟩
        have hB2:=hb.trans (hb2.mono hb.size)
        have HZ3:=hide (HZ2.out u')
        have ho2:=row_below Ho.out hb2 (Nat.le_refl _)
        have Hth:=hide (show w2.there w.heap.size (k * 5) (snC p u').toArray.size from row_thereN ho2 Hln.out)
        have HR:=hide (putC_row (snC p u') w2 (k * 5) _ ho2)
        rw [Hput.out] at HR
        have HF:=hide (hB2.trans (putC_below (Nat.le_refl _) (snC p u') w2 (k * 5)))
        have s2:=hb2.size
        have HP:=hide (show Parts (fun a b w q=>OwnSn a b w q.1 q.2) w.heap.size (w2.setCells w.heap.size (k * 5) (snC p u')).heap.size (some w.heap.size) (w2.setCells w.heap.size (k * 5) (snC p u')) (Z ++ [(p,u')]) from by
          rw [size_sets]
          refine Parts.turn ?_ (fun a b q h1 h2 h3 hq=>hq.kept (Kept.setCs w2 _ _ (by have:=h3 _ rfl;omega)))
          exact (Hpt.out.turn (fun a b q h1 h2 _ hq=>hq.kept (Kept.of_below hb2 (Nat.le_refl _)))).snoc (p,u') (Nat.le_refl _) (by omega) s2 (fun g e=>by cases e;omega) ho')
        have H1:Hid ((snC p u').toArray.all (·.oneCell')=true):=hide (by rw [List.all_toArray];exact snC_one ho'.rd)
        have Hi2:Hid ((Try.prog.info? 107).map (·.size)=some (snC p u').toArray.size):=hide Try.infoSn
        rw [show snV p u'=.agg (snC p u').toArray from rfl]
        clear hb2 hB2 ho' ho2 s2 HZ2 Hput HT
        generalize snC p u'=ds at Hth HR HF HP H1 Hi2
        go_wp2_with (first
          | (refine wpList_store_mid rfl 107 _ _ rfl w.heap.size (k * 5) ds.toArray rfl rfl Hth.out Hi2.out H1.out ?_)
          | fail)
        go_roundw
        case rel=>exact ⟨k+1,_,by omega,by go_num,HZ3.out,HR.out,HP.out,HF.out⟩
        case measure=>simp [intOf];omega
      · have e:k=N:=by omega
        subst e
        rw [prt_all _ _ _ hZl] at ho
        have hZe:Z.map (·.1)=Z0.map (·.1):=by rw [hZ,List.take_of_length_le (by simp;have:=HN.out;omega)]
        have hZn:Z.length=k:=by simpa using hZl
        go_wp2
        go_ret
        subst hZn
        exact ⟨_,rfl,⟨Z,hZe,ho,top_row ho,hpt.no (fun g e=>by cases e;exact .inr (.inr rfl))⟩,hb⟩
theorem Try.infoESn:(Try.prog.info? 107).map (·.size)=some 5:=by kernel_rfl
theorem eqSigS_any (v1 v2:Value) (l:List Sn) (w:World) (hr1:RdSs w v1 l) (hr2:RdSs w v2 l) (hl:l.length<=4000000) (hall:∀ a ∈ l,FewSn a) :
    Calls Try.prog 30 #[v1,v2] w fun e w'=>e=.returned (.bool true)/\Below w.heap.size w w':=by
  obtain ⟨Z1,rfl,hr1⟩:=hr1
  obtain ⟨Z2,hZ,hr2⟩:=hr2
  have hl':Z1.length<=4000000:=by simpa using hl
  have hN2:Z2.length=Z1.length:=by have:=congrArg List.length hZ;simpa using this
  have hel:∀ i (h1:i < Z1.length) (h2:i < Z2.length),Z2[i].1=Z1[i].1:=fun i h1 h2=>by
    have:=List.getElem_of_eq hZ (show i < (Z2.map (·.1)).length by simpa using h2)
    simpa using this
  rcases hr1 with ⟨a,cap,rfl,rfl,-⟩ | ⟨b,off,cap,h0,rfl,h1,h2,h3,h4⟩
  · obtain ⟨a2,cap2,rfl⟩:=hr2.shape
    rw [hN2]
    clear hr2 hel hN2 hZ
    go_enter Try.func30,Try.ntmps30
    go_wp2
    refine wp_loop_rounds 1 ?_
    rw [rounds_succ]
    go_wp2
    go_ret
    exact ⟨rfl,Below.refl _ _⟩
  · rcases hr2 with ⟨a2,cap2,rfl,e0,-⟩ | ⟨b2,off2,cap2,g0,rfl,g1,g2,g3,g4⟩
    · subst e0;exact absurd (List.length_eq_zero_iff.1 hN2.symm) h0
    · obtain ⟨N,hN⟩:∃ N,Z1.length=N:=⟨_,rfl⟩
      rw [hN] at h1 hl' hN2 ⊢
      rw [hN2] at g1 ⊢
      have HN:=hide hN
      have HN2:=hide hN2
      have H4:=hide h4
      have G4:=hide g4
      have HA:=hide hall
      have HE:=hide hel
      have hlen:((N:Int) != (N:Int))=false:=by simp
      clear hN hN2 h4 g4 hall hel hZ hl h0 g0
      go_enter Try.func30,Try.ntmps30
      go_wp2
      go_loopw [5] (fun i wr=>∃ k:Nat,k<=N/\i=.int .i64 k/\Below w.heap.size w wr) (fun i _=>N - (intOf i).toNat)
      case atStart=>exact ⟨0,Nat.zero_le _,rfl,Below.refl _ _⟩
      case round =>
        obtain ⟨k,hk,rfl,hb⟩:=hrel
        by_cases hlt:k < N
        · have hk1:k < Z1.length:=by rw [HN.out];exact hlt
          have hk2:k < Z2.length:=by rw [HN2.out];exact hlt
          have hbD:=hb.drew
          have hS0:(fun W:World=>W.rangeAt b (off+k * 5) (snC Z1[k].1 Z1[k].2)/\W.rangeAt b2 (off2+k * 5) (snC Z2[k].1 Z2[k].2)) wr.drew:=⟨range_below (H4.out k hk1).1 hbD h3,range_below (G4.out k hk2).1 hbD g3⟩
          have HS:Hid (∀ V,Below w.heap.size w V->(V.rangeAt b (off+k * 5) (snC Z1[k].1 Z1[k].2)/\V.rangeAt b2 (off2+k * 5) (snC Z2[k].1 Z2[k].2))):=hide (fun V hV=>⟨range_below (H4.out k hk1).1 hV h3,range_below (G4.out k hk2).1 hV g3⟩)
          have HT:=hide (eqSig_same Z1[k].1 Z1[k].2 Z2[k].2 wr.drew ((H4.out k hk1).2.below hbD (Nat.le_refl _)) (by rw [<- HE.out k hk1 hk2];exact (G4.out k hk2).2.below hbD (Nat.le_refl _)) (HA.out _ (List.mem_map.2 ⟨_,List.getElem_mem hk1,rfl⟩)))
          rw [HE.out k hk1 hk2] at hS0 HS
          rw [show snV Z1[k].1 Z1[k].2=.agg (snC Z1[k].1 Z1[k].2).toArray from rfl] at HT
          have Hi1:=hide (show (Try.prog.info? 107).map (·.size)=some (snC Z1[k].1 Z1[k].2).length from Try.infoESn)
          have Hi2:=hide (show (Try.prog.info? 107).map (·.size)=some (snC Z1[k].1 Z2[k].2).length from Try.infoESn)
          have hli:(k:Int) < (N:Int):=by omega
          have hk0:(0:Int)<=(k:Int):=by omega
          have HB:=hide hb
          have HBD:=hide hbD
          clear hb hbD
          generalize snC Z1[k].1 Z1[k].2=cs at hS0 HS HT Hi1 Hi2
          go_wp2
          refine wp_region_held_drew (S:=fun W=>W.rangeAt b (off+k * 5) cs/\W.rangeAt b2 (off2+k * 5) cs) (by kernel_rfl) hS0 (fun hHeld=>?_)
          refine wpAnyH_take (i:=0) (v:=.slice (some ⟨b,off,none⟩) N cap) rfl (by kernel_rfl) (by kernel_rfl) (by kernel_rfl) (fun _ _ _ h=>h) (Or.inl ⟨by rfl,fun W hW=>by go_simp⟩) (by assumption) ?_
          change wpAnyH Try.prog _ _ _ _ _ _ (Act.put _ (some 17) _) _
          simp only [Act.put,List.setIfInBounds_toArray,List.set_cons_zero,List.set_cons_succ]
          refine wpAnyH_take (i:=1) (v:=.int .i64 (k:Int)) rfl (by kernel_rfl) (by kernel_rfl) (by kernel_rfl) (fun _ _ _ h=>h) (Or.inl ⟨by rfl,fun W hW=>by go_simp⟩) (by assumption) ?_
          change wpAnyH Try.prog _ _ _ _ _ _ (Act.put _ (some 18) _) _
          simp only [Act.put,List.setIfInBounds_toArray,List.set_cons_zero,List.set_cons_succ]
          refine wpAnyH_take (i:=2) (v:=.pointer (some ⟨b,off+k * 5,none⟩)) rfl (by kernel_rfl) (by kernel_rfl) (by kernel_rfl) (fun _ _ _ h=>h) (Or.inl ⟨by rfl,fun W hW=>by go_simp⟩) (by assumption) ?_
          change wpAnyH Try.prog _ _ _ _ _ _ (Act.put _ (some 19) _) _
          simp only [Act.put,List.setIfInBounds_toArray,List.set_cons_zero,List.set_cons_succ]
          refine wpAnyH_take (i:=3) (v:=.agg cs.toArray) rfl (by kernel_rfl) (by kernel_rfl) (by kernel_rfl) (fun _ _ _ h=>h) (yieldsIf_load_mid (by rfl) 107 _ rfl b (off+k * 5) rfl cs _ (fun W hW=>hW.1) Try.underlying107 rfl Hi1.out) (by assumption) ?_
          change wpAnyH Try.prog _ _ _ _ _ _ (Act.put _ (some 20) _) _
          simp only [Act.put,List.setIfInBounds_toArray,List.set_cons_zero,List.set_cons_succ]
          refine wpAnyH_take (i:=4) (v:=.slice (some ⟨b2,off2,none⟩) N cap2) rfl (by kernel_rfl) (by kernel_rfl) (by kernel_rfl) (fun _ _ _ h=>h) (Or.inl ⟨by rfl,fun W hW=>by go_simp⟩) (by assumption) ?_
          change wpAnyH Try.prog _ _ _ _ _ _ (Act.put _ (some 21) _) _
          simp only [Act.put,List.setIfInBounds_toArray,List.set_cons_zero,List.set_cons_succ]
          refine wpAnyH_take (i:=5) (v:=.int .i64 (k:Int)) rfl (by kernel_rfl) (by kernel_rfl) (by kernel_rfl) (fun _ _ _ h=>h) (Or.inl ⟨by rfl,fun W hW=>by go_simp⟩) (by assumption) ?_
          change wpAnyH Try.prog _ _ _ _ _ _ (Act.put _ (some 22) _) _
          simp only [Act.put,List.setIfInBounds_toArray,List.set_cons_zero,List.set_cons_succ]
          refine wpAnyH_take (i:=6) (v:=.pointer (some ⟨b2,off2+k * 5,none⟩)) rfl (by kernel_rfl) (by kernel_rfl) (by kernel_rfl) (fun _ _ _ h=>h) (Or.inl ⟨by rfl,fun W hW=>by go_simp⟩) (by assumption) ?_
          change wpAnyH Try.prog _ _ _ _ _ _ (Act.put _ (some 23) _) _
          simp only [Act.put,List.setIfInBounds_toArray,List.set_cons_zero,List.set_cons_succ]
          refine wpAnyH_take (i:=7) (v:=.agg cs.toArray) rfl (by kernel_rfl) (by kernel_rfl) (by kernel_rfl) (fun _ _ _ h=>h) (yieldsIf_load_mid (by rfl) 107 _ rfl b2 (off2+k * 5) rfl cs _ (fun W hW=>hW.2) Try.underlying107 rfl Hi2.out) (by assumption) ?_
          change wpAnyH Try.prog _ _ _ _ _ _ (Act.put _ (some 24) _) _
          simp only [Act.put,List.setIfInBounds_toArray,List.set_cons_zero,List.set_cons_succ]
          refine wpAnyH_ready (rs:=[8]) (by kernel_rfl) (by simp) ?_
          refine AllReadyH.cons rfl (fun K hK=>?_) AllReadyH.nil
          go_simp
          go_wp2_with (go_at_call 46;(with_reducible refine HT.out.mono ?_);rintro e w2 ⟨rfl,hb2⟩;have hB2:=HBD.out.trans (hb2.mono HBD.out.size);have hS2:=HS.out _ hB2)
          refine hK.out _ _ hS2 (fun hHeld=>?_)
          try simp only [Act.put,List.setIfInBounds_toArray,List.set_cons_zero,List.set_cons_succ]
          refine wpAnyH_take (i:=9) (v:=.bool false) rfl (by kernel_rfl) (by kernel_rfl) (by kernel_rfl) (fun _ _ _ h=>h) (Or.inl ⟨by rfl,fun W hW=>by go_simp⟩) (by assumption) ?_
          change wpAnyH Try.prog _ _ _ _ _ _ (Act.put _ (some 26) _) _
          simp only [Act.put,List.setIfInBounds_toArray,List.set_cons_zero,List.set_cons_succ]
          refine wpAnyH_done (by kernel_rfl) ?_ _
          clear hS0 hS2 hb2
          go_wp2
          go_roundw
          case rel=>exact ⟨k+1,by omega,by go_num,hB2⟩
          case measure=>simp [intOf];omega
        · go_wp2
          go_ret
          exact ⟨rfl,hb⟩
theorem Try.infoSSn:(Try.prog.info? 94).map (·.size)=some 5:=by kernel_rfl
theorem szSigS_any (v:Value) (l:List Sn) (m:Nat) (w:World) (hr:RdSs w v l) (hm:m<=4000000) (hl:l.length<=maxLen) (hs:∀ q ∈ l,FitSn q) :
    Calls Try.prog 16 #[v,.int .i64 (m:Int)] w fun e w'=>Szd (l.length<=4000000/\∀ q ∈ l,FewSn q) m w e w':=by
  have em:maxLen<=9223372036854775807:=by unfold maxLen;omega
  obtain ⟨Z,rfl,hr⟩:=hr
  have hl':Z.length<=maxLen:=by simpa using hl
  by_cases hn:m < Z.length
  · obtain ⟨a,cap,rfl⟩:=hr.shape
    clear hr hs
    go_enter Try.func16,Try.ntmps16
    go_wp2
    go_ret
    exact ⟨_,rfl,fun h=>by omega,Below.refl _ _⟩
  · rcases hr with ⟨a,cap,rfl,rfl,-⟩ | ⟨b,off,cap,h0,rfl,h1,h2,h3,h4⟩
    · go_enter Try.func16,Try.ntmps16
      go_wp2
      refine wp_loop_rounds 1 ?_
      rw [rounds_succ]
      go_wp2
      go_ret
      exact ⟨_,rfl,fun _=>⟨⟨by simp,by simp⟩,by omega⟩,Below.refl _ _⟩
    · have H4 := hide h4
      have HS:=hide (show ∀ i (h:i < Z.length),FitSn Z[i].1 from fun i h=>hs _ (List.mem_map.2 ⟨_,List.getElem_mem h,rfl⟩))
      have HL:=hide (show (Z.map (·.1)).length<=4000000 from by simp;omega)
      obtain ⟨N,hN⟩:∃ N,Z.length=N:=⟨_,rfl⟩
      rw [hN] at h1 hl' hn ⊢
      have HN:=hide hN
      clear h4 hs hN hl h0
      go_enter Try.func16,Try.ntmps16
      go_wp2
      go_loopw [1,5] (fun mv iv wr=>∃ k r:Nat,k<=N/\iv=.int .i64 (k:Int)/\mv=.int .i64 (r:Int)/\r<=m/\(∀ i (h:i < Z.length),i < k->FewSn Z[i].1)/\Below w.heap.size w wr) (fun _ iv _=>N - (intOf iv).toNat)
      case atStart=>exact ⟨0,m - N,Nat.zero_le _,rfl,by go_num,by omega,(fun i _ h=>by omega),Below.refl _ _⟩
      case round =>
        obtain ⟨k,r,hk,rfl,rfl,hrm,hfw,hb⟩:=hrel
        have HF:=hide hfw
        clear hfw
        by_cases hlt:k < N
        · have hk1:k < Z.length:=by rw [HN.out];exact hlt
          have hrg:=range_below (H4.out k hk1).1 hb h3
          have HT:=hide (szSig_any Z[k].1 Z[k].2 r wr ((H4.out k hk1).2.below hb (Nat.le_refl _)) (by omega) (HS.out k hk1))
          have hil:(Try.prog.info? 94).map (·.size)=some (snC Z[k].1 Z[k].2).length:=Try.infoSSn
          rw [show snV Z[k].1 Z[k].2=.agg (snC Z[k].1 Z[k].2).toArray from rfl] at HT
          have Hil:=hide hil
          have Hrg:=hide hrg
          have HB:=hide hb
          have hli:(k:Int) < (N:Int):=by omega
          clear hrg hil hb
          generalize snC Z[k].1 Z[k].2=cs at HT Hil Hrg
          go_wp2_with (first
            | (refine wpList_load_mid rfl 94 _ rfl b (off+k * 5) rfl cs _ Hrg.out Try.underlying94 rfl Hil.out ?_)
            | fail)
          refine HT.out.mono ?_
          rintro e w2 ⟨q,rfl,hq,hb2⟩
          have HB2:=hide (HB.out.trans (hb2.mono HB.out.size))
          have Hq:=hide hq
          clear hq hb2 HT Hrg Hil
          by_cases hneg:q < 0
          · go_wp2
            go_ret
            exact ⟨_,rfl,fun h=>by omega,HB2.out⟩
          · obtain ⟨r2,hr2⟩:∃ r2:Nat,q=(r2:Int):=⟨q.toNat,by omega⟩
            subst hr2
            go_wp2
            go_roundw
            case rel =>
              obtain ⟨hfew,hle⟩:=Hq.out (by omega)
              exact ⟨k+1,r2,by omega,by go_num,rfl,by omega,(fun i h hi=>by
                by_cases e:i=k
                · subst e;exact hfew
                · exact HF.out i h (by omega)),HB2.out⟩
            case measure=>simp [intOf];omega
        · have HX:=hide (show ∀ q ∈ Z.map (·.1),FewSn q from fun q hq=>by
            obtain ⟨x,hx,rfl⟩:=List.mem_map.1 hq
            obtain ⟨i,hi,rfl⟩:=List.mem_iff_getElem.1 hx
            exact HF.out i hi (by have:=HN.out;omega))
          go_wp2
          go_ret
          exact ⟨_,rfl,fun _=>⟨⟨HL.out,HX.out⟩,by omega⟩,hb⟩
end Go.Proofs.Ytfdbedenlbikgaa
