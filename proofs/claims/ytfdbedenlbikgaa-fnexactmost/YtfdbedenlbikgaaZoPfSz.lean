/- A proof. -/
import Derived.Test.YtfdbedenlbikgaaZoSnTo
set_option maxRecDepth 20000
set_option maxHeartbeats 8000000
namespace Go.Proofs.Ytfdbedenlbikgaa
open Go.RowKit Go.ChangeShapes Go.WideShapes
set_option linter.unusedVariables false
section
variable {H:Type} {enc:TypeId × Value->H} {w:World} {base:Nat} {spare:Nat->Bool} {held:Bool}
theorem open_blockS {fuel:Nat} {a:Option Addr} {len cap:Nat} {x:DataW H × List MemPlace} (h:DataW.trod enc Try.prog w base spare held fuel 27 [.slice a len cap]=some x) :
    ∃ l:List Bk,len=l.length/\RdKs w (.slice a len cap) l/\l.length<=maxLen/\∀ q ∈ l,FitK q:=by
  rcases Deep.open_slice Try.underlying27 h with ⟨hcs,_⟩ | ⟨ad,len',cap',m,n,D,Pl,hcs,hb,hl,hm,hmm,hx,hel⟩
  · simp at hcs
    obtain ⟨rfl,rfl,rfl⟩:=hcs
    exact ⟨[],rfl,.inl ⟨_,_,rfl,rfl,fun _=>rfl⟩,by simp,by simp⟩
  · simp at hcs
    obtain ⟨rfl,rfl,rfl⟩:=hcs
    have hlm:len<=m:=by rw [hmm];split <;> omega
    by_cases h0:len=0
    · subst h0;exact ⟨[],rfl,.inl ⟨_,_,rfl,rfl,fun h=>by cases h⟩,by simp,by simp⟩
    · obtain ⟨b,off,spot⟩:=ad
      rw [show Try.prog.cellsOf 91=14 from by kernel_rfl] at hel
      have each:∀ i,i < m->∃ q:Bk × Bv,w.cells? base ((⟨b,off,spot⟩:Addr).add (i * 14)) 14=some (bkP q)/\RdK w q.1 q.2/\FitK q.1:=fun i hi=>by
        obtain ⟨cs',h1,h2⟩:=hel i hi
        obtain ⟨qa,lv,rfl,k1,k2⟩:=open_block h2
        exact ⟨(qa,lv),h1,k1,k2⟩
      obtain ⟨q0,-⟩:=each 0 (by omega)
      haveI:Inhabited (Bk × Bv):=⟨q0⟩
      obtain ⟨q,hq⟩:=Deep.choose_lt each
      have c0:∀ i,i < m->∀ j,j < 14->w.cell? (((⟨b,off,spot⟩:Addr).add (i * 14)).add j)=(bkP (q i))[j]?:=fun i hi=>(World.cells?_some (hq i hi).1).2.2
      have hc0:=c0 0 (by omega) 0 (by omega)
      have hspot:spot=none:=by simpa [Addr.add] using World.cell?_spot hc0
      subst hspot
      have hlen:((List.range len).map (fun i=>(q i).1)).length=len:=by simp
      refine ⟨(List.range len).map (fun i=>(q i).1),hlen.symm,.inr ⟨b,off,cap,?_,by rw [hlen],by omega,hm,?_,?_⟩,by omega,?_⟩
      · intro e;rw [e] at hlen;simp at hlen;omega
      · have:=World.block_lt_of_cell? w _ hc0;simpa [Addr.add] using this
      · intro i hi
        rw [hlen] at hi
        refine ⟨(q i).2,?_,by simpa using (hq i (by omega)).2.1⟩
        intro j hj
        have:=c0 i (by omega) j hj
        rw [add_plainC,add_plainC] at this
        simpa [bkP] using this
      · intro z hz
        obtain ⟨i,hi,rfl⟩:=List.mem_map.1 hz
        exact (hq i (by have:=List.mem_range.1 hi;omega)).2.2
end
end Go.Proofs.Ytfdbedenlbikgaa
namespace Go.Proofs.Ytfdbedenlbikgaa
open Go.RowKit
set_option linter.unusedVariables false
structure FitPf (p:Pf):Prop where
  wep:(Lit.int .i64 p.ep).wf=true
  lb:p.bs.length<=maxLen
  gb:∀ b ∈ p.bs,FitK b
  wqr:(Lit.int .i64 p.qr).wf=true
  wqb:(Lit.int .i64 p.qb).wf=true
  lw:p.qw.length<=maxLen
  gw:∀ a ∈ p.qw,a.size<=maxLen
theorem szProof_any (p:Pf) (u:Pv) (m:Nat) (w:World) (hr:RdPf w p u) (hm:m<=4000000) (hf:FitPf p) :
    Calls Try.prog 84 #[pfV p u,.int .i64 (m:Int)] w fun e w'=>Szd (FewPf p) m w e w':=by
  have hlb:=hf.lb
  have hgb:=hf.gb
  have hlw:=hf.lw
  have hgw:=hf.gw
  clear hf
  obtain ⟨ep,bs,qr,qb,qw⟩:=p
  obtain ⟨yb,yw⟩:=u
  obtain ⟨hyb,hyw⟩:=hr
  simp only at *
  obtain ⟨adb,cpb,rfl⟩:=hyb.shape
  obtain ⟨adw,cpw,rfl⟩:=hyw.shape
  have E1:=hide (fun (k:Nat) (hk:k<=4000000) V (hV:Below w.heap.size w V)=>szuBlock (.slice adb bs.length cpb) bs k V (hyb.below hV (Nat.le_refl _)) hk hlb hgb)
  have E2:=hide (fun (k:Nat) (hk:k<=4000000) V (hV:Below w.heap.size w V)=>szuQc qr qb (.slice adw qw.length cpw) qw k V (hyw.below hV (Nat.le_refl _)) hk hlw hgw)
  clear hyb hlb hgb
  clear hyw hlw hgw
  simp only [pfV,qcV] at *
  obtain ⟨S0,hS0⟩:∃ x,w.alloc (.cells #[.int .i64 ep,.slice adb bs.length cpb,.int .i64 qr,.int .i64 qb,.slice adw qw.length cpw] 167)=x:=⟨_,rfl⟩
  have k0:Blk S0 w.heap.size 167 [.int .i64 ep,.slice adb bs.length cpb,.int .i64 qr,.int .i64 qb,.slice adw qw.length cpw]:=by rw [<- hS0];exact Blk.new w _ _
  have b0:Below w.heap.size w S0:=by rw [<- hS0];exact (Below.refl _ w).alloc (Nat.le_refl _) _
  obtain ⟨m0,em0⟩:∃ k:Nat,k=m:=⟨_,rfl⟩
  rw [<- em0]
  have hm0:m0<=4000000:=by omega
  have W0:=hide (show (m0:Int)<=(m0:Int) from by omega)
  clear em0 hm
  have x1:=k0.cell 1
  simp only [List.getElem?_cons_zero,List.getElem?_cons_succ] at x1
  have K0:=hide k0
  clear k0
  go_enter Try.func84,Try.ntmps84
  go_wp2_with fail
  (try rw [hS0])
  clear hS0
  refine (E1.out m0 hm0 _ b0).mono ?_
  rintro e w1 ⟨q1,rfl,f1,hb1⟩
  have k1:=K0.out.below hb1 K0.out.lt
  have b1:=b0.trans (hb1.mono b0.size)
  clear x1 K0 b0 hb1 E1
  by_cases zq1:q1 < 0
  · clear f1 k1
    go_wp2
    go_ret
    exact ⟨_,rfl,fun h=>by omega,b1⟩
  obtain ⟨m1,em1⟩:∃ k:Nat,q1=(k:Int):=⟨q1.toNat,by omega⟩
  subst em1
  obtain ⟨fa1,fb1⟩:=f1 (by omega)
  have X1:=hide fa1
  have hm1:m1<=4000000:=by omega
  have W1:=hide (show (m1:Int)<=(m0:Int) from by have:=W0.out;omega)
  clear f1 fa1 fb1 W0
  have x2:=k1.cell 2
  have x3:=k1.cell 3
  have x4:=k1.cell 4
  simp only [List.getElem?_cons_zero,List.getElem?_cons_succ] at x2 x3 x4
  have K1:=hide k1
  clear k1
  go_wp2_with fail
  refine (E2.out m1 hm1 _ b1).mono ?_
  rintro e w2 ⟨q2,rfl,f2,hb2⟩
  have k2:=K1.out.below hb2 K1.out.lt
  have b2:=b1.trans (hb2.mono b1.size)
  clear x2 x3 x4 K1 b1 hb2 E2
  by_cases zq2:q2 < 0
  · clear f2 k2
    go_wp2
    go_ret
    exact ⟨_,rfl,fun h=>by omega,b2⟩
  obtain ⟨m2,em2⟩:∃ k:Nat,q2=(k:Int):=⟨q2.toNat,by omega⟩
  subst em2
  obtain ⟨fa2,fb2⟩:=f2 (by omega)
  have X2:=hide fa2
  have hm2:m2<=4000000:=by omega
  have W2:=hide (show (m2:Int)<=(m0:Int) from by have:=W1.out;omega)
  clear f2 fa2 fb2 W1
  clear k2
  go_wp2
  go_ret
  exact ⟨_,rfl,fun _=>⟨⟨X1.out.1,X1.out.2,X2.out⟩,W2.out⟩,b2⟩
theorem Try.infoSPf:(Try.prog.info? 167).map (·.size)=some 5:=by kernel_rfl
theorem szProofS_any (v:Value) (l:List Pf) (m:Nat) (w:World) (hr:RdPs w v l) (hm:m<=4000000) (hl:l.length<=maxLen) (hs:∀ q ∈ l,FitPf q) :
    Calls Try.prog 56 #[v,.int .i64 (m:Int)] w fun e w'=>Szd (l.length<=4000000/\∀ q ∈ l,FewPf q) m w e w':=by
  have em:maxLen<=9223372036854775807:=by unfold maxLen;omega
  obtain ⟨Z,rfl,hr⟩:=hr
  have hl':Z.length<=maxLen:=by simpa using hl
  by_cases hn:m < Z.length
  · obtain ⟨a,cap,rfl⟩:=hr.shape
    clear hr hs
    go_enter Try.func56,Try.ntmps56
    go_wp2
    go_ret
    exact ⟨_,rfl,fun h=>by omega,Below.refl _ _⟩
  · rcases hr with ⟨a,cap,rfl,rfl,-⟩ | ⟨b,off,cap,h0,rfl,h1,h2,h3,h4⟩
    · go_enter Try.func56,Try.ntmps56
      go_wp2
      refine wp_loop_rounds 1 ?_
      rw [rounds_succ]
      go_wp2
      go_ret
      exact ⟨_,rfl,fun _=>⟨⟨by simp,by simp⟩,by omega⟩,Below.refl _ _⟩
    · have H4 := hide h4
      have HS:=hide (show ∀ i (h:i < Z.length),FitPf Z[i].1 from fun i h=>hs _ (List.mem_map.2 ⟨_,List.getElem_mem h,rfl⟩))
      have HL:=hide (show (Z.map (·.1)).length<=4000000 from by simp;omega)
      obtain ⟨N,hN⟩:∃ N,Z.length=N:=⟨_,rfl⟩
      rw [hN] at h1 hl' hn ⊢
      have HN:=hide hN
      clear h4 hs hN hl h0
      go_enter Try.func56,Try.ntmps56
      go_wp2
      go_loopw [1,5] (fun mv iv wr=>∃ k r:Nat,k<=N/\iv=.int .i64 (k:Int)/\mv=.int .i64 (r:Int)/\r<=m/\(∀ i (h:i < Z.length),i < k->FewPf Z[i].1)/\Below w.heap.size w wr) (fun _ iv _=>N - (intOf iv).toNat)
      case atStart=>exact ⟨0,m - N,Nat.zero_le _,rfl,by go_num,by omega,(fun i _ h=>by omega),Below.refl _ _⟩
      case round =>
        obtain ⟨k,r,hk,rfl,rfl,hrm,hfw,hb⟩:=hrel
        have HF:=hide hfw
        clear hfw
        by_cases hlt:k < N
        · have hk1:k < Z.length:=by rw [HN.out];exact hlt
          have hrg:=range_below (H4.out k hk1).1 hb h3
          have HT:=hide (szProof_any Z[k].1 Z[k].2 r wr ((H4.out k hk1).2.below hb (Nat.le_refl _)) (by omega) (HS.out k hk1))
          have hil:(Try.prog.info? 167).map (·.size)=some (pfC Z[k].1 Z[k].2).length:=Try.infoSPf
          rw [show pfV Z[k].1 Z[k].2=.agg (pfC Z[k].1 Z[k].2).toArray from rfl] at HT
          have Hil:=hide hil
          have Hrg:=hide hrg
          have HB:=hide hb
          have hli:(k:Int) < (N:Int):=by omega
          clear hrg hil hb
          generalize pfC Z[k].1 Z[k].2=cs at HT Hil Hrg
          go_wp2_with (first
            | (refine wpList_load_mid rfl 167 _ rfl b (off+k * 5) rfl cs _ Hrg.out Try.underlying167 rfl Hil.out ?_)
            | fail)
          refine HT.out.mono ?_
          rintro e w2 ⟨q,rfl,hq,hb2⟩
          have HB2:=hide (HB.out.trans (hb2.mono HB.out.size))
          have Hq:=hide hq
          clear hq hb2 HT Hrg Hil
          by_cases hneg:q < 0
          · go_wp2
            go_ret
            exact ⟨_,rfl,fun h=>by omega,HB2.out⟩
          · obtain ⟨r2,hr2⟩:∃ r2:Nat,q=(r2:Int):=⟨q.toNat,by omega⟩
            subst hr2
            go_wp2
            go_roundw
            case rel =>
              obtain ⟨hfew,hle⟩:=Hq.out (by omega)
              exact ⟨k+1,r2,by omega,by go_num,rfl,by omega,(fun i h hi=>by
                by_cases e:i=k
                · subst e;exact hfew
                · exact HF.out i h (by omega)),HB2.out⟩
            case measure=>simp [intOf];omega
        · have HX:=hide (show ∀ q ∈ Z.map (·.1),FewPf q from fun q hq=>by
            obtain ⟨x,hx,rfl⟩:=List.mem_map.1 hq
            obtain ⟨i,hi,rfl⟩:=List.mem_iff_getElem.1 hx
            exact HF.out i hi (by have:=HN.out;omega))
          go_wp2
          go_ret
          exact ⟨_,rfl,fun _=>⟨⟨HL.out,HX.out⟩,by omega⟩,hb⟩
end Go.Proofs.Ytfdbedenlbikgaa
