/- A proof. -/
import Derived.Test.YtaidhenkijjcfaaGreatZoNdSz
set_option maxRecDepth 20000
set_option maxHeartbeats 8000000
namespace Go.Proofs.YtaidhenkijjcfaaGreat
open Go.RowKit
set_option linter.unusedVariables false
def SzdW (P:Prop) (W m:Nat) (w:World) (e:Ending) (w':World):Prop:=∃ r:Int,e=.returned (.int .i64 r)/\(0<=r->P/\(W:Int)+r<=(m:Int))/\Below w.heap.size w w'
def totG {α:Type} (f:α->Nat) (l:List α):Nat:=(l.map f).sum
theorem totG_snoc {α:Type} {f:α->Nat} {l:List α} {k:Nat} (h:k < l.length):totG f (l.take (k+1))=totG f (l.take k)+f l[k]:=by
  unfold totG
  rw [List.take_succ_eq_append_getElem h,List.map_append,List.sum_append]
  simp
theorem totG_map {α β:Type} (g:α->β) (f:β->Nat) (l:List α):totG f (l.map g)=totG (fun a=>f (g a)) l:=by
  unfold totG
  rw [List.map_map]
  rfl
theorem szwVal (v:Value) (l:List Vl) (m:Nat) (w:World) (hr:RdV w v l) (hm:m<=4000000) (hl:l.length<=maxLen) (hs:∀ a ∈ l,a.1.size<=maxLen) :
    Calls Tryz.prog 30 #[v,.int .i64 (m:Int)] w fun en w'=>SzdW (l.length<=4000000) (l.length) m w en w':=by
  have em:maxLen<=9223372036854775807:=by unfold maxLen;omega
  refine (szValN_any v l m w hr (by omega) (by omega) (fun a ha=>by have:=hs a ha;omega)).mono ?_
  rintro en w' ⟨r,h1,h2,h3⟩
  exact ⟨r,h1,fun h=>by have:=h2 h;exact ⟨by omega,by omega⟩,h3⟩
theorem szwBlock (v:Value) (l:List Bk) (m:Nat) (w:World) (hr:RdKs w v l) (hm:m<=4000000) (hl:l.length<=maxLen) (hs:∀ b ∈ l,FitK b) :
    Calls Tryz.prog 31 #[v,.int .i64 (m:Int)] w fun en w'=>SzdW (l.length<=4000000/\∀ b ∈ l,FewK b) ((l.length+totK l)) m w en w':=by
  refine (szBlockSN_any v l m w hr (by omega) hl hs).mono ?_
  rintro en w' ⟨r,h1,h2,h3⟩
  exact ⟨r,h1,fun h=>by
    have a:=h2 h
    exact ⟨⟨by omega,fun b hb=>by
      have t:=totK_at l b hb
      have f:=hs b hb
      unfold wgK at t
      exact ⟨by omega,by omega,by omega,by omega,by omega,f.qs,f.ws,f.ts,f.ns,f.ms,f.rs⟩⟩,by omega⟩,h3⟩
theorem szwQc (r b:Int) (v:Value) (l:List ByteArray) (m:Nat) (w:World) (hr:RdS w v l) (hm:m<=4000000) (hl:l.length<=maxLen) (hs:∀ s ∈ l,s.size<=maxLen) :
    Calls Tryz.prog 32 #[qcV r b v,.int .i64 (m:Int)] w fun en w'=>SzdW (l.length<=4000000) (l.length) m w en w':=by
  have em:maxLen<=9223372036854775807:=by unfold maxLen;omega
  refine (szQcN_any r b v l m w hr (by omega) (by omega) (fun a ha=>by have:=hs a ha;omega)).mono ?_
  rintro en w' ⟨r,h1,h2,h3⟩
  exact ⟨r,h1,fun h=>by have:=h2 h;exact ⟨by omega,by omega⟩,h3⟩
theorem szwTc (r:Int) (v u:Value) (l:List ByteArray) (n:List Int) (m:Nat) (w:World) (hr:RdS w v l) (hi:RdI w u n) (hm:m<=4000000) (hl:l.length<=maxLen) (hs:∀ s ∈ l,s.size<=maxLen) (hn:n.length<=maxLen) :
    Calls Tryz.prog 51 #[tcV r v u,.int .i64 (m:Int)] w fun en w'=>SzdW (l.length<=4000000/\n.length<=4000000) ((l.length+n.length)) m w en w':=by
  have em:maxLen<=9223372036854775807:=by unfold maxLen;omega
  refine (szTcN_any r v u l n m w hr hi (by omega) (by omega) (fun a ha=>by have:=hs a ha;omega) (by omega)).mono ?_
  rintro en w' ⟨r,h1,h2,h3⟩
  exact ⟨r,h1,fun h=>by have:=h2 h;exact ⟨⟨by omega,by omega⟩,by omega⟩,h3⟩
theorem szwVote (v:Value) (l:List Tr) (m:Nat) (w:World) (hr:RdR w v l) (hm:m<=4000000) (hl:l.length<=maxLen) (hs:∀ a ∈ l,a.2.2.size<=maxLen) :
    Calls Tryz.prog 52 #[v,.int .i64 (m:Int)] w fun en w'=>SzdW (l.length<=4000000/\l.length<=m) (0) m w en w':=by
  have em:maxLen<=9223372036854775807:=by unfold maxLen;omega
  refine (szVoteS_any v l m w hr (by omega) (by omega) (fun a ha=>by have:=hs a ha;omega)).mono ?_
  rintro en w' ⟨r,h1,h2,h3⟩
  exact ⟨r,h1,fun h=>by have:=h2 h;exact ⟨⟨by omega,by omega⟩,by omega⟩,h3⟩
theorem szwGone (v:Value) (l:List Tr) (m:Nat) (w:World) (hr:RdR w v l) (hm:m<=4000000) (hl:l.length<=maxLen) (hs:∀ a ∈ l,a.2.2.size<=maxLen) :
    Calls Tryz.prog 53 #[v,.int .i64 (m:Int)] w fun en w'=>SzdW (l.length<=4000000/\l.length<=m) (0) m w en w':=by
  have em:maxLen<=9223372036854775807:=by unfold maxLen;omega
  refine (szGoneS_any v l m w hr (by omega) (by omega) (fun a ha=>by have:=hs a ha;omega)).mono ?_
  rintro en w' ⟨r,h1,h2,h3⟩
  exact ⟨r,h1,fun h=>by have:=h2 h;exact ⟨⟨by omega,by omega⟩,by omega⟩,h3⟩
theorem szwInt (v:Value) (l:List Int) (m:Nat) (w:World) (hr:RdI w v l) (hm:m<=4000000) (hl:l.length<=maxLen) :
    Calls Tryz.prog 54 #[v,.int .i64 (m:Int)] w fun en w'=>SzdW (l.length<=4000000) (l.length) m w en w':=by
  have em:maxLen<=9223372036854775807:=by unfold maxLen;omega
  refine (szIntN_any v l m w hr (by omega) (by omega)).mono ?_
  rintro en w' ⟨r,h1,h2,h3⟩
  exact ⟨r,h1,fun h=>by have:=h2 h;exact ⟨by omega,by omega⟩,by rw [h3];exact Below.refl _ _⟩
theorem szwTx (v:Value) (l:List Tx5) (m:Nat) (w:World) (hr:RdT w v l) (hm:m<=4000000) (hl:l.length<=maxLen) (hs:∀ t ∈ l,t.2.1.size<=maxLen/\t.2.2.1.size<=maxLen) :
    Calls Tryz.prog 55 #[v,.int .i64 (m:Int)] w fun en w'=>SzdW (l.length<=4000000) (l.length) m w en w':=by
  have em:maxLen<=9223372036854775807:=by unfold maxLen;omega
  refine (szTxN_any v l m w hr (by omega) (by omega) (fun a ha=>by have:=hs a ha;omega)).mono ?_
  rintro en w' ⟨r,h1,h2,h3⟩
  exact ⟨r,h1,fun h=>by have:=h2 h;exact ⟨by omega,by omega⟩,h3⟩
theorem szwLedger (e:Int) (v:Value) (l:List Ac) (m:Nat) (w:World) (hr:RdA w v l) (hm:m<=4000000) (hl:l.length<=maxLen) (hs:∀ a ∈ l,a.1.size<=maxLen/\a.2.2.2.2.length<=maxLen) :
    Calls Tryz.prog 24 #[lgV e v,.int .i64 (m:Int)] w fun en w'=>SzdW ((l.length<=4000000/\∀ a ∈ l,a.2.2.2.2.length<=4000000)/\l.length+totA l<=m) 0 m w en w':=by
  have em:maxLen<=9223372036854775807:=by unfold maxLen;omega
  refine (szLedger_any e v l m w hr (by omega) (by omega) (fun a ha=>by have:=hs a ha;omega)).mono ?_
  rintro en w' ⟨r,h1,h2,h3⟩
  exact ⟨r,h1,fun h=>by
    obtain ⟨a,b⟩:=h2 h
    exact ⟨⟨⟨by omega,fun x hx=>by have:=totA_at l x hx;unfold wgA at this;omega⟩,by omega⟩,by omega⟩,h3⟩
def wgPf (p:Pf):Nat:=(p.bs.length+totK p.bs)+p.qw.length
theorem szwProof_one (p:Pf) (u:Pv) (m:Nat) (w:World) (hr:RdPf w p u) (hm:m<=4000000) (hf:FitPf p) :
    Calls Tryz.prog 7 #[pfV p u,.int .i64 (m:Int)] w fun e w'=>SzdW (FewPf p) (wgPf p) m w e w':=by
  have hlb:=hf.lb
  have hgb:=hf.gb
  have hlw:=hf.lw
  have hgw:=hf.gw
  clear hf
  obtain ⟨ep,bs,qr,qb,qw⟩:=p
  obtain ⟨yb,yw⟩:=u
  obtain ⟨hyb,hyw⟩:=hr
  simp only at *
  obtain ⟨adb,cpb,rfl⟩:=hyb.shape
  obtain ⟨adw,cpw,rfl⟩:=hyw.shape
  have E1:=hide (fun (k:Nat) (hk:k<=4000000) V (hV:Below w.heap.size w V)=>szwBlock (.slice adb bs.length cpb) bs k V (hyb.below hV (Nat.le_refl _)) hk hlb hgb)
  have E2:=hide (fun (k:Nat) (hk:k<=4000000) V (hV:Below w.heap.size w V)=>szwQc qr qb (.slice adw qw.length cpw) qw k V (hyw.below hV (Nat.le_refl _)) hk hlw hgw)
  clear hyb hlb hgb
  clear hyw hlw hgw
  simp only [pfV,qcV] at *
  obtain ⟨S0,hS0⟩:∃ x,w.alloc (.cells #[.int .i64 ep,.slice adb bs.length cpb,.int .i64 qr,.int .i64 qb,.slice adw qw.length cpw] 30)=x:=⟨_,rfl⟩
  have k0:Blk S0 w.heap.size 30 [.int .i64 ep,.slice adb bs.length cpb,.int .i64 qr,.int .i64 qb,.slice adw qw.length cpw]:=by rw [<- hS0];exact Blk.new w _ _
  have b0:Below w.heap.size w S0:=by rw [<- hS0];exact (Below.refl _ w).alloc (Nat.le_refl _) _
  obtain ⟨m0,em0⟩:∃ k:Nat,k=m:=⟨_,rfl⟩
  rw [<- em0]
  have hm0:m0<=4000000:=by omega
  have W0:=hide (show ((0:Nat):Int)+(m0:Int)<=(m0:Int) from by omega)
  clear em0 hm
  have x1:=k0.cell 1
  simp only [List.getElem?_cons_zero,List.getElem?_cons_succ] at x1
  have K0:=hide k0
  clear k0
  go_enter Tryz.func7,Tryz.ntmps7
  go_wp2_with fail
  (try rw [hS0])
  clear hS0
  refine (E1.out m0 hm0 _ b0).mono ?_
  rintro e w1 ⟨q1,rfl,f1,hb1⟩
  have k1:=K0.out.below hb1 K0.out.lt
  have b1:=b0.trans (hb1.mono b0.size)
  clear x1 K0 b0 hb1 E1
  by_cases zq1:q1 < 0
  · clear f1 k1
    go_wp2
    go_ret
    exact ⟨_,rfl,fun h=>by omega,b1⟩
  obtain ⟨m1,em1⟩:∃ k:Nat,q1=(k:Int):=⟨q1.toNat,by omega⟩
  subst em1
  obtain ⟨fa1,fb1⟩:=f1 (by omega)
  have X1:=hide fa1
  have hm1:m1<=4000000:=by omega
  have W1:=hide (show ((0+(bs.length+totK bs):Nat):Int)+(m1:Int)<=(m0:Int) from by have:=W0.out;omega)
  clear f1 fa1 fb1 W0
  have x2:=k1.cell 2
  have x3:=k1.cell 3
  have x4:=k1.cell 4
  simp only [List.getElem?_cons_zero,List.getElem?_cons_succ] at x2 x3 x4
  have K1:=hide k1
  clear k1
  go_wp2_with fail
  refine (E2.out m1 hm1 _ b1).mono ?_
  rintro e w2 ⟨q2,rfl,f2,hb2⟩
  have k2:=K1.out.below hb2 K1.out.lt
  have b2:=b1.trans (hb2.mono b1.size)
  clear x2 x3 x4 K1 b1 hb2 E2
  by_cases zq2:q2 < 0
  · clear f2 k2
    go_wp2
    go_ret
    exact ⟨_,rfl,fun h=>by omega,b2⟩
  obtain ⟨m2,em2⟩:∃ k:Nat,q2=(k:Int):=⟨q2.toNat,by omega⟩
  subst em2
  obtain ⟨fa2,fb2⟩:=f2 (by omega)
  have X2:=hide fa2
  have hm2:m2<=4000000:=by omega
  have W2:=hide (show ((0+(bs.length+totK bs)+qw.length:Nat):Int)+(m2:Int)<=(m0:Int) from by have:=W1.out;omega)
  clear f2 fa2 fb2 W1
  clear k2
  go_wp2
  go_ret
  exact ⟨_,rfl,fun _=>⟨⟨X1.out.1,X1.out.2,X2.out⟩,by have:=W2.out;unfold wgPf;simp only;omega⟩,b2⟩
theorem Tryz.infoSWPf:(Tryz.prog.info? 30).map (·.size)=some 5:=by kernel_rfl
theorem szwProof (v:Value) (l:List Pf) (m:Nat) (w:World) (hr:RdPs w v l) (hm:m<=4000000) (hl:l.length<=maxLen) (hs:∀ q ∈ l,FitPf q) :
    Calls Tryz.prog 56 #[v,.int .i64 (m:Int)] w fun e w'=>SzdW (l.length<=4000000/\∀ q ∈ l,FewPf q) (l.length+totG wgPf l) m w e w':=by
  have em:maxLen<=9223372036854775807:=by unfold maxLen;omega
  obtain ⟨PP,hPP⟩:∃ x:Prop,(l.length<=4000000/\∀ q ∈ l,FewPf q)=x:=⟨_,rfl⟩
  obtain ⟨WW,hWW⟩:∃ x:Nat,l.length+totG wgPf l=x:=⟨_,rfl⟩
  rw [hPP,hWW]
  have HP:=hide (show (l.length<=4000000/\∀ q ∈ l,FewPf q)->PP from fun h=>by rw [<- hPP];exact h)
  have HW:=hide hWW
  clear hPP hWW
  obtain ⟨Z,rfl,hr⟩:=hr
  have hl':Z.length<=maxLen:=by simpa using hl
  by_cases hn:m < Z.length
  · obtain ⟨a,cap,rfl⟩:=hr.shape
    clear hr hs
    go_enter Tryz.func56,Tryz.ntmps56
    go_wp2
    go_ret
    exact ⟨_,rfl,fun h=>by omega,Below.refl _ _⟩
  · rcases hr with ⟨a,cap,rfl,rfl,-⟩ | ⟨b,off,cap,h0,rfl,h1,h2,h3,h4⟩
    · go_enter Tryz.func56,Tryz.ntmps56
      go_wp2
      refine wp_loop_rounds 1 ?_
      rw [rounds_succ]
      go_wp2
      go_ret
      exact ⟨_,rfl,fun _=>⟨HP.out ⟨by simp,by simp⟩,by rw [<- HW.out];simp [totG]⟩,Below.refl _ _⟩
    · have H4 := hide h4
      have HS:=hide (show ∀ i (h:i < Z.length),FitPf Z[i].1 from fun i h=>hs _ (List.mem_map.2 ⟨_,List.getElem_mem h,rfl⟩))
      have HL:=hide (show (Z.map (·.1)).length<=4000000 from by simp;omega)
      obtain ⟨N,hN⟩:∃ N,Z.length=N:=⟨_,rfl⟩
      have HTm:=hide (totG_map (fun q:Pf × Pv=>q.1) wgPf Z)
      rw [hN] at h1 hl' hn ⊢
      have HN:=hide hN
      clear h4 hs hN hl h0
      go_enter Tryz.func56,Tryz.ntmps56
      go_wp2
      go_loopw [1,5] (fun mv iv wr=>∃ k r:Nat,k<=N/\iv=.int .i64 (k:Int)/\mv=.int .i64 (r:Int)/\N+totG (fun q=>wgPf q.1) (Z.take k)+r<=m/\(∀ i (h:i < Z.length),i < k->FewPf Z[i].1)/\Below w.heap.size w wr) (fun _ iv _=>N - (intOf iv).toNat)
      case atStart=>exact ⟨0,m - N,Nat.zero_le _,rfl,by go_num,by simp [totG];omega,(fun i _ h=>by omega),Below.refl _ _⟩
      case round =>
        obtain ⟨k,r,hk,rfl,rfl,hrm,hfw,hb⟩:=hrel
        have HF:=hide hfw
        have Hrm:=hide hrm
        have hr4:r<=4000000:=by omega
        clear hfw hrm
        by_cases hlt:k < N
        · have hk1:k < Z.length:=by rw [HN.out];exact hlt
          have hrg:=range_below (H4.out k hk1).1 hb h3
          have HT:=hide (szwProof_one Z[k].1 Z[k].2 r wr ((H4.out k hk1).2.below hb (Nat.le_refl _)) hr4 (HS.out k hk1))
          have hil:(Tryz.prog.info? 30).map (·.size)=some (pfC Z[k].1 Z[k].2).length:=Tryz.infoSWPf
          rw [show pfV Z[k].1 Z[k].2=.agg (pfC Z[k].1 Z[k].2).toArray from rfl] at HT
          have Hil:=hide hil
          have Hrg:=hide hrg
          have HB:=hide hb
          have hli:(k:Int) < (N:Int):=by omega
          clear hrg hil hb
          generalize pfC Z[k].1 Z[k].2=cs at HT Hil Hrg
          go_wp2_with (first
            | (refine wpList_load_mid rfl 30 _ rfl b (off+k * 5) rfl cs _ Hrg.out Tryz.underlying30 rfl Hil.out ?_)
            | fail)
          refine HT.out.mono ?_
          rintro e w2 ⟨q,rfl,hq,hb2⟩
          have HB2:=hide (HB.out.trans (hb2.mono HB.out.size))
          have Hq:=hide hq
          clear hq hb2 HT Hrg Hil
          by_cases hneg:q < 0
          · go_wp2
            go_ret
            exact ⟨_,rfl,fun h=>by omega,HB2.out⟩
          · obtain ⟨r2,hr2⟩:∃ r2:Nat,q=(r2:Int):=⟨q.toNat,by omega⟩
            subst hr2
            go_wp2
            go_roundw
            case rel =>
              obtain ⟨hfew,hle⟩:=Hq.out (by omega)
              have hsn:totG (fun q:Pf × Pv=>wgPf q.1) (Z.take (k+1))=totG (fun q=>wgPf q.1) (Z.take k)+wgPf Z[k].1:=totG_snoc hk1
              have:=Hrm.out
              exact ⟨k+1,r2,by omega,by go_num,rfl,by omega,(fun i h hi=>by
                by_cases e:i=k
                · subst e;exact hfew
                · exact HF.out i h (by omega)),HB2.out⟩
            case measure=>simp [intOf];omega
        · have HX:=hide (show ∀ q ∈ Z.map (·.1),FewPf q from fun q hq=>by
            obtain ⟨x,hx,rfl⟩:=List.mem_map.1 hq
            obtain ⟨i,hi,rfl⟩:=List.mem_iff_getElem.1 hx
            exact HF.out i hi (by have:=HN.out;omega))
          have ek:k=Z.length:=by have:=HN.out;omega
          have Hrm2:=Hrm.out
          rw [ek,List.take_length] at Hrm2
          have HZ:=hide (show ((Z.map (·.1)).length+totG wgPf (Z.map (·.1)):Nat)+r<=m from by rw [HTm.out,List.length_map];have:=HN.out;omega)
          clear Hrm2 Hrm ek
          go_wp2
          go_ret
          exact ⟨_,rfl,fun _=>⟨HP.out ⟨HL.out,HX.out⟩,by have:=HZ.out;have:=HW.out;omega⟩,hb⟩
end Go.Proofs.YtaidhenkijjcfaaGreat
