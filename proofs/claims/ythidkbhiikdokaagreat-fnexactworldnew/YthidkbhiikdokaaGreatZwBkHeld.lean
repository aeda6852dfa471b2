/- A block marked, with what its lists are then; a block held against its marks. -/
import Derived.Test.YthidkbhiikdokaaGreatZwMgHd
set_option maxRecDepth 20000
set_option maxHeartbeats 8000000
namespace Go.Proofs.YthidkbhiikdokaaGreat
open Go.RowKit Go.Sort
set_option linter.unusedVariables false
theorem heldProofS_any (v:Value) (l:List Pf) (k:Nat) (w:World) (hr:RdPs w v (mkG mkPf nxPf k l)) (hl:l.length<=4000000) (hf:∀ q ∈ l,FewPf q) (hk:nxG nxPf k l<=40000000) (hk0:0 < k) :
    Calls Tryz.prog 78 #[v,.int .i64 (k:Int)] w fun e w'=>e=.returned (.int .i64 ((nxG nxPf k l:Nat):Int))/\Below w.heap.size w w':=by
  obtain ⟨Z,hZ,hr⟩:=hr
  have hZl:Z.length=l.length:=by rw [<- mkG_len mkPf nxPf k l,<- hZ,List.length_map]
  rcases hr with ⟨a,cap,rfl,rfl,-⟩ | ⟨b,off,cap,h0,rfl,h1,h2,h3,h4⟩
  · have e:l=[]:=List.length_eq_zero_iff.1 (by rw [<- hZl];rfl)
    subst e
    go_enter Tryz.func78,Tryz.ntmps78
    go_wp2
    refine wp_loop_rounds 1 ?_
    rw [rounds_succ]
    go_wp2
    go_ret
    exact ⟨rfl,Below.refl _ _⟩
  · have H4:=hide (show ∀ i (h:i < Z.length) (h2:i < l.length),∃ u,w.rangeAt b (off+i * 5) (pfC (mkPf (nxG nxPf k (l.take i)) l[i]) u)/\RdPf w (mkPf (nxG nxPf k (l.take i)) l[i]) u from fun i h h2=>by
      have e:Z[i].1=mkPf (nxG nxPf k (l.take i)) l[i]:=by
        rw [<- mkG_at mkPf nxPf k l i (by rw [mkG_len];exact h2) h2]
        simp only [<- hZ,List.getElem_map]
      have q:w.rangeAt b (off+i * 5) (pfC Z[i].1 Z[i].2)/\RdPf w Z[i].1 Z[i].2:=h4 i h
      rw [e] at q
      exact ⟨_,q⟩)
    have HF:=hide hf
    have Hk:=hide hk
    rw [hZl] at h1 ⊢
    have HZl:=hide hZl
    clear h4 hf hk hZ hZl h0
    go_enter Tryz.func78,Tryz.ntmps78
    go_wp2
    go_loopw [1,5] (fun kv iv wr=>∃ j:Nat,j<=l.length/\iv=.int .i64 (j:Int)/\kv=.int .i64 ((nxG nxPf k (l.take j):Nat):Int)/\Below w.heap.size w wr) (fun _ iv _=>l.length - (intOf iv).toNat)
    case atStart=>exact ⟨0,Nat.zero_le _,rfl,rfl,Below.refl _ _⟩
    case round =>
      obtain ⟨j,hj,rfl,rfl,hb⟩:=hrel
      by_cases hlt:j < l.length
      · obtain ⟨u,hat,hrl⟩:=H4.out j (by rw [HZl.out];exact hlt) hlt
        have hfew:=HF.out l[j] (List.getElem_mem hlt)
        have hnx:nxG nxPf k (l.take (j+1))=nxPf (nxG nxPf k (l.take j)) l[j]:=nxG_take hlt k
        have hle:nxG nxPf k (l.take (j+1))<=40000000:=Nat.le_trans (nxG_le nxPf_ge k l (j+1)) Hk.out
        have hK0:0 < nxG nxPf k (l.take j):=Nat.lt_of_lt_of_le hk0 (nxG_ge nxPf_ge k _)
        rw [hnx] at hle
        have Hnx:=hide hnx
        clear hnx
        generalize nxG nxPf k (l.take j)=K at Hnx hle hK0 hat hrl ⊢
        generalize l[j]=p at hat hrl hfew hle Hnx
        have hnb:=hfew.nb
        have hfb:=hfew.fb
        have hnw:=hfew.nw
        obtain ⟨ep,bs,qr,qb,qw⟩:=p
        obtain ⟨yb,yw⟩:=u
        obtain ⟨hrb,hrw⟩:=hrl
        clear hfew
        simp only at *
        obtain ⟨adb,cpb,eb⟩:=hrb.shape
        subst eb
        have hrb:RdKs w (.slice adb (mkLk (K+1) bs).length cpb) (mkLk (K+1) bs):=hrb
        obtain ⟨nb,hmb⟩:∃ x,(mkLk (K+1) bs).length=x:=⟨_,rfl⟩
        obtain ⟨adw,cpw,eb⟩:=hrw.shape
        subst eb
        have hrw:RdS w (.slice adw (mkS (K+1+totM bs+1+1) qw.length).length cpw) (mkS (K+1+totM bs+1+1) qw.length):=hrw
        obtain ⟨nw,hmw⟩:∃ x,(mkS (K+1+totM bs+1+1) qw.length).length=x:=⟨_,rfl⟩
        unfold nxPf at hle
        simp only at hle
        have hli:(j:Int) < (l.length:Int):=by omega
        obtain ⟨K1,hK1⟩:∃ x:Nat,K+1+totM bs=x:=⟨_,rfl⟩
        obtain ⟨K2,hK2⟩:∃ x:Nat,K1+2+qw.length=x:=⟨_,rfl⟩
        have z0:((K:Nat):Int)=((K:Nat):Int):=by omega
        have z2:((K+1+totM bs:Nat):Int)=((K1:Nat):Int):=by omega
        have z3:((K+1+totM bs+1:Nat):Int)=(K1:Int)+1:=by omega
        have HC:=hide (fun V (hV:Below w.heap.size w V)=>(show V.cell? ⟨b,off+j * 5,none⟩=some (.int .i64 (((K:Nat):Int)))/\V.cell? ⟨b,off+j * 5+1,none⟩=some (.slice adb nb cpb)/\V.cell? ⟨b,off+j * 5+2,none⟩=some (.int .i64 (((K1:Nat):Int)))/\V.cell? ⟨b,off+j * 5+3,none⟩=some (.int .i64 ((K1:Int)+1))/\V.cell? ⟨b,off+j * 5+4,none⟩=some (.slice adw nw cpw) from by
          have r:=range_below hat hV h3
          have r0:=r 0 _ rfl
          rw [Nat.add_zero] at r0
          have r1:=r 1 _ rfl
          have r2:=r 2 _ rfl
          have r3:=r 3 _ rfl
          have r4:=r 4 _ rfl
          exact ⟨by rw [<- z0];exact r0,by rw [<- hmb];exact r1,by rw [<- z2];exact r2,by rw [<- z3];exact r3,by rw [<- hmw];exact r4⟩))
        rw [hmb] at hrb
        rw [hmw] at hrw
        have HA1:=hide (fun V (hV:Below w.heap.size w V)=>heldBlockS_any (.slice adb nb cpb) bs (K+1) V (hrb.below hV (Nat.le_refl _)) (by omega) (fun b hb=>by have f:=hfb b hb;exact ⟨f.q,f.w,f.h,f.t,f.n⟩) (by omega) (by omega))
        rw [show (K+1+totM bs)=K1 from by omega,show ((K+1:Nat):Int)=(K:Int)+1 from by omega] at HA1
        have HA2:=hide (fun V (hV:Below w.heap.size w V)=>heldStringS_any (.slice adw nw cpw) (K+1+totM bs+1+1) qw.length V (hrw.below hV (Nat.le_refl _)) (by omega) (by omega) (by omega))
        rw [show (K+1+totM bs+1+1+qw.length)=K2 from by omega,show ((K+1+totM bs+1+1:Nat):Int)=(K1:Int)+1+1 from by omega] at HA2
        have Hn2:=hide (show nxG nxPf k (l.take (j+1))=K2 from by rw [Hnx.out];unfold nxPf;simp only;omega)
        have Hb:=hide hb
        have hb_K:K<=40000000:=by omega
        have hb_K1:K1<=40000000:=by omega
        have hb_K2:K2<=40000000:=by omega
        clear hat hrb hmb hrw hmw hle Hnx hb z0 z2 z3
        clear hK1 hK2
        obtain ⟨c0,c1,c2,c3,c4⟩:=HC.out wr Hb.out
        have HX:=hide (HA1.out wr Hb.out)
        clear HA1
        go_wp2_with fail
        refine HX.out.mono ?_
        rintro e w1 ⟨rfl,hb1⟩
        have Hb1:=hide (Hb.out.trans (hb1.mono Hb.out.size))
        clear HX hb1 Hb c0 c1 c2 c3 c4
        obtain ⟨c0,c1,c2,c3,c4⟩:=HC.out w1 Hb1.out
        have HX:=hide (HA2.out w1 Hb1.out)
        clear HA2
        go_wp2_with fail
        refine HX.out.mono ?_
        rintro e w2 ⟨rfl,hb2⟩
        have Hb2:=hide (Hb1.out.trans (hb2.mono Hb1.out.size))
        clear HX hb2 Hb1 c0 c1 c2 c3 c4
        go_wp2
        go_roundw
        case rel=>exact ⟨j+1,by omega,by go_num,(by rw [Hn2.out];try go_num),Hb2.out⟩
        case measure=>simp [intOf];omega
      · have e:j=l.length:=by omega
        have HT:Hid (nxG nxPf k (l.take j)=nxG nxPf k l):=hide (by rw [e,List.take_length])
        clear e
        generalize nxG nxPf k (l.take j)=K at HT
        go_wp2
        go_ret
        exact ⟨ret_int (by rw [HT.out]),hb⟩
end Go.Proofs.YthidkbhiikdokaaGreat
namespace Go.Proofs.YthidkbhiikdokaaGreat
open Go.RowKit
set_option linter.unusedVariables false
def mkK (k:Nat) (b:Bk):Bk :=
  ⟨b.id,b.ep,b.rd,b.md,b.qr,b.qb,mkS k b.qw.length,b.tr,mkS (k+b.qw.length) b.tw.length,mkI (k+b.qw.length+b.tw.length) b.th.length,mkT (k+b.qw.length+b.tw.length+b.th.length) b.ts.length,b.en,mkV (k+b.qw.length+b.tw.length+b.th.length+5 * b.ts.length) b.nx.length,b.rt⟩
def mkC (k:Nat) (b:Bk):Nat:=k+b.qw.length+b.tw.length+b.th.length+5 * b.ts.length+2 * b.nx.length
end Go.Proofs.YthidkbhiikdokaaGreat
