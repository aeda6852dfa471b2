/- The laws' marks on texts. -/
import Derived.Test.YtaidhenkijjcfaaGreatZrAcPut
import Derived.Laws.IdiomStrings
set_option maxRecDepth 20000
set_option maxHeartbeats 400000
namespace Go.Proofs.YtaidhenkijjcfaaGreat
open Go.RowKit
set_option linter.unusedVariables false
def tlZ (q:Ac × Value):Value × List (Int × Int):=(q.2,q.1.2.2.2.2)
structure LvQ (base:Nat) (w:World) (g:Nat) (T:List (Value × List (Int × Int))):Prop where
  own:∀ t ∈ T,OwnL base w t.1 t.2
  far:∀ t ∈ T,∀ k,t.1.ownBlock=some k->k ≠ g
  apart:T.Pairwise (fun a b=>∀ k,a.1.ownBlock=some k->b.1.ownBlock ≠ some k)
def midC (Z:List (Ac × Value)) (k:Nat) (x:List Value):List (List Value):=(Z.take k).map acC ++ x :: (Z.drop k).map acC
theorem OwnA.mono {base base':Nat} {w:World} {v:Value} {l:List Ac} (h:OwnA base w v l) (hB:base'<=base):OwnA base' w v l:=by
  obtain ⟨g,cap,Z,h1,h2,h3,h4⟩:=h
  refine ⟨g,cap,Z,h1,h2,⟨h3.1,?_⟩,h4.mono hB⟩
  rcases h3.2 with h' | ⟨g',cap',cur,hv,hbb,r⟩
  · exact .inl h'
  · exact .inr ⟨g',cap',cur,hv,by omega,r⟩
theorem fst_at {Z:List (Ac × Value)} {L:List Ac} {k:Nat} (hZ:Z.map (·.1)=L) (hk:k < L.length):(Z[k]'(by rw [<- hZ] at hk;simpa using hk)).1=L[k]:=by subst hZ;simp
def dg:Nat->Nat->List UInt8->List UInt8
  | 0,_,acc=>acc
  | f+1,k,acc=>if k=0 then acc else dg f (k / 10) (UInt8.ofNat (48+k % 10) :: acc)
def mtx (k:Nat):ByteArray:=⟨(109 :: dg k k []).toArray⟩
theorem dg_step (f k:Nat) (acc:List UInt8) (h:0 < k) (hf:k<=f):dg f k acc=dg (f - 1) (k / 10) (UInt8.ofNat (48+k % 10) :: acc):=by
  cases f with
  | zero=>omega
  | succ f=>rw [dg,if_neg (by omega)];rfl
theorem dg_zero (f:Nat) (acc:List UInt8):dg f 0 acc=acc:=by
  cases f with
  | zero=>rfl
  | succ f=>rw [dg,if_pos rfl]
theorem str_one (w:World) (x:Int) (c:UInt8) (h:x=(c.toNat:Int)):(convert 199 9 (.slice (some ⟨w.heap.size,0,none⟩) 1 1)).run Tryz.prog (w.alloc (.cells #[.int .u8 x] 5))=.ok (.string ⟨[c].toArray⟩) (w.alloc (.cells #[.int .u8 x] 5)):=by
  have:=run_convert_bytes_back (P:=Tryz.prog) (w.alloc (.cells #[.int .u8 x] 5)) 199 9 5 ⟨w.heap.size,0,none⟩ 1 [c] Tryz.underlying199 Tryz.underlying5 Tryz.underlying9 (by
    intro j hj
    simp only [List.length_cons,List.length_nil] at hj
    have:j=0:=by omega
    subst this
    simp [Addr.add,World.cell?_alloc_at,h])
  simpa using this
theorem str_app (c:UInt8) (acc:List UInt8):(⟨#[c]⟩ ++ ⟨acc.toArray⟩:ByteArray)=⟨(c :: acc).toArray⟩:=by
  apply ByteArray.ext
  simp
theorem byte_of' (m:Nat) (h:m < 256):(m:Int)=((UInt8.ofNat m).toNat:Int):=by
  rw [UInt8.toNat_ofNat'];omega
theorem markText_any (k:Nat) (w:World) (h0:0 < k) (hk:k<=200000000) :
    Calls Tryz.prog 107 #[.int .i64 (k:Int)] w fun e w'=>e=.returned (.string (mtx k))/\Below w.heap.size w w':=by
  have HM:Hid (mtx k=⟨(109 :: dg k k []).toArray⟩):=hide rfl
  go_enter Tryz.func107,Tryz.ntmps107
  go_wp2
  go_loopw [0,3] (fun kv ov wr=>∃ (j f:Nat) (acc:List UInt8),kv=.int .i64 (j:Int)/\ov=.string ⟨acc.toArray⟩/\dg k k []=dg f j acc/\j<=f/\acc.length+f=k/\Below w.heap.size w wr) (fun kv _ _=>(intOf kv).toNat)
  case atStart=>exact ⟨k,k,[],rfl,rfl,rfl,Nat.le_refl _,by simp,Below.refl _ _⟩
  case round =>
    obtain ⟨j,f,acc,rfl,rfl,hd,hjf,haf,hb⟩:=hrel
    have Hd:=hide hd
    have Haf:=hide haf
    have hal:acc.length<=200000000:=by omega
    have hfl:f<=200000000:=by omega
    have hsz:=hb.size
    clear hd haf
    by_cases hj:0 < j
    · have Hst:=hide (dg_step f j acc hj hjf)
      obtain ⟨C,hC,hC2⟩:∃ C:Nat,48+j % 10=C/\C < 256:=⟨_,rfl,by omega⟩
      have k1:=str_one wr (48+(j:Int) % 10) (UInt8.ofNat C) (by have:=byte_of' C hC2;omega)
      rw [hC] at Hst
      clear hC
      have Hb:=hide hb
      clear hb
      go_wp2
      go_roundw
      case rel=>exact ⟨j / 10,f - 1,UInt8.ofNat C :: acc,by go_num,by rw [str_app],Hd.out.trans Hst.out,by omega,by have:=Haf.out;simp;omega,Hb.out.alloc hsz _⟩
      case measure=>simp [intOf];omega
    · have hj0:j=0:=by omega
      subst hj0
      have Hz:=hide (dg_zero f acc)
      go_wp2
      go_ret
      exact ⟨by rw [HM.out,Hd.out,Hz.out,<- str_app];rfl,hb⟩
def mkS (k n:Nat):List ByteArray:=(List.range n).map (fun i=>mtx (k+i))
theorem mkS_len (k n:Nat):(mkS k n).length=n:=by simp [mkS]
theorem mkS_at (k n j:Nat) (h:j < (mkS k n).length):(mkS k n)[j]=mtx (k+j):=by simp [mkS]
theorem own_below {B base:Nat} {w w':World} {e:TypeId} {size:Nat} {v:Value} {n:Nat} {xs:List Value} (h:w.ownsRow base e size v n xs) (hb:Below B w w') (hB:w.heap.size<=B):w'.ownsRow base e size v n xs:=by
  refine ⟨h.1,?_⟩
  rcases h.2 with h' | ⟨g,cap,cur,hv,hbb,hg,r⟩
  · exact .inl h'
  · refine .inr ⟨g,cap,cur,hv,hbb,?_,r⟩
    have hlt:g < w.heap.size:=(Array.getElem?_eq_some_iff.1 hg).1
    rw [hb.block g (by omega)];exact hg
theorem grown_below {w w':World} (row:Option Nat) (h:Below w.heap.size w w'):w.grownBy w' row :=
  ⟨h.os,h.tape,h.output,h.size,fun k hk _=>h.block k hk⟩
theorem grownS_trans {a b c:World} {row:Option Nat} (h:a.grownBy b row) (k:b.grownBy c row):a.grownBy c row :=
  ⟨k.os.trans h.os,k.tape.trans h.tape,k.output.trans h.output,Nat.le_trans h.size k.size,fun i hi hr=>(k.block i (Nat.lt_of_lt_of_le hi h.size) hr).trans (h.block i hi hr)⟩
theorem markStringS_any (v:Value) (l:List ByteArray) (k base:Nat) (w:World) (ho:OwnS base w v l) (hl:l.length<=10000000) (hk:k<=100000000) (hk0:0 < k) :
    Calls Tryz.prog 108 #[v,.int .i64 (k:Int)] w fun e w'=>e=.returned (.int .i64 ((k+l.length:Nat):Int))/\OwnS base w' v (mkS k l.length)/\w.grownBy w' v.ownBlock:=by
  have hML:=mkS_len k l.length
  have hMA:=mkS_at k l.length
  generalize hMd:mkS k l.length=M at hML hMA
  clear hMd
  rcases ho.2 with ⟨rfl,hn⟩ | ⟨g,cap,cur,rfl,_,_,_,hcm,_,_⟩
  · have e:l=[]:=List.length_eq_zero_iff.1 hn
    subst e
    have e2:M=[]:=List.length_eq_zero_iff.1 hML
    subst e2
    have Ho:=hide ho
    clear ho
    go_enter Tryz.func108,Tryz.ntmps108
    go_wp2
    refine wp_loop_rounds 1 ?_
    rw [rounds_succ]
    go_wp2
    go_ret
    exact ⟨rfl,Ho.out,World.grownBy.refl _ _⟩
  · have Ho:=hide ho
    have HML:=hide hML
    have HMA:=hide hMA
    have hMl:l.length<=M.length:=by omega
    have hMg:M.length<=l.length:=by omega
    clear ho hML hMA
    go_enter Tryz.func108,Tryz.ntmps108
    go_wp2
    go_loopw [1,5] (fun kv iv wr=>∃ j:Nat,j<=l.length/\iv=.int .i64 (j:Int)/\kv=.int .i64 ((k+j:Nat):Int)/\wr.ownsRow base 9 1 (.slice (some ⟨g,0,none⟩) l.length cap) l.length ((M.take j ++ l.drop j).map Value.string)/\w.grownBy wr (some g))
      (fun _ iv _=>l.length - (intOf iv).toNat)
    case atStart=>exact ⟨0,Nat.zero_le _,rfl,rfl,by simpa [OwnS] using Ho.out,World.grownBy.refl _ _⟩
    case round =>
      obtain ⟨j,hj,rfl,rfl,hown,hgr⟩:=hrel
      by_cases hlt:j < l.length
      · have hjM:j < M.length:=by omega
        obtain ⟨K,hK⟩:∃ K:Nat,k+j=K:=⟨_,rfl⟩
        have hK2:K<=200000000:=by omega
        have hK0:0 < K:=by omega
        have Hm:=hide (fun w=>markText_any K w hK0 hK2)
        have eM:M[j]=mtx K:=by rw [HMA.out j hjM,hK]
        rw [hK]
        have HK:=hide hK
        clear hK
        have Hown:=hide hown
        have Hgr:=hide hgr
        clear hown hgr
        go_wp2_with fail
        refine (Hm.out _).mono ?_
        rintro e w2 ⟨rfl,hb2⟩
        have hown2:=own_below Hown.out hb2 (Nat.le_refl _)
        have hf:=hown2.frozenAt j
        have hd:=hown2.cellAt j (by omega)
        obtain ⟨u,hu⟩:∃ u,((M.take j ++ l.drop j).map Value.string)[j]?=some u:=⟨_,List.getElem?_eq_getElem (by simp;omega)⟩
        rw [hu] at hd
        have hst:=hown2.stored j (.string M[j])
        rw [gen_set M l Value.string j HML.out hjM,eM] at hst
        have Hst:=hide hst
        have Hb2:=hide hb2
        clear hst hown2 hu eM hb2
        go_wp2
        go_roundw
        case rel=>exact ⟨j+1,by omega,by go_num,by rw [show k+(j+1)=K+1 from by have:=HK.out;omega];go_num,Hst.out.1,grownS_trans (grownS_trans Hgr.out (grown_below _ Hb2.out)) Hst.out.2⟩
        case measure=>simp [intOf];omega
      · have e:M.take j ++ l.drop j=M:=by rw [List.take_of_length_le (by omega),List.drop_of_length_le (by omega),List.append_nil]
        rw [e] at hown
        have ho':OwnS base wr (.slice (some ⟨g,0,none⟩) l.length cap) M:=by
          unfold OwnS
          rw [HML.out]
          exact hown
        have e2:j=l.length:=by omega
        have Ho':=hide ho'
        have Hgr:=hide hgr
        clear ho' hgr hown e
        subst e2
        go_wp2
        go_ret
        exact ⟨rfl,Ho'.out,Hgr.out⟩
end Go.Proofs.YtaidhenkijjcfaaGreat
