/- The laws' marks on texts. -/
import Derived.Test.YthehfkafcdociaaGreatDoorZyNamesOk
import Derived.Lib.QuietBelow
import Derived.Laws.IdiomStrings
set_option maxRecDepth 20000
set_option maxHeartbeats 1000000
namespace Go.Proofs.YthehfkafcdociaaGreatDoor
open Go.RowKit
set_option linter.unusedVariables false
def ModV (l:List Vl):Prop:=(0<=totalV l/\totalV l<=1000000000)/\∀ ns,0<=weightV l ns/\weightV l ns<=1000000000
def qcV (r b:Int) (vw:Value):Value:=.agg #[.int .i64 r,.int .i64 b,vw]
def rootB (r b:Int) (ns:List ByteArray):Bool:=decide (r=0) && (decide (b=-1) && decide (ns.length=0))
def allV (l:List Vl) (ns:List ByteArray):Bool:=ns.all (fun s=>hasN (l.map (·.1)) s) && nmsB ns
def quoB (l:List Vl) (ns:List ByteArray):Bool:=decide (2 * totalV l < 3 * weightV l ns)
def qcB (l:List Vl) (r b:Int) (ns:List ByteArray):Bool:=rootB r b ns || (inB r 1 10000 && (inB b 0 100000 && (allV l ns && quoB l ns)))
end Go.Proofs.YthehfkafcdociaaGreatDoor
namespace Go.Proofs.YthehfkafcdociaaGreatDoor
open Go.RowKit Go.Sort
set_option linter.unusedVariables false
def noneB (r:Int) (ws:List ByteArray) (hs:List Int):Bool:=decide (r=0) && (decide (ws.length=0) && decide (hs.length=0))
def hisB (r:Int) (hs:List Int):Bool:=hs.all (fun h=>inB h 0 (r - 1))
def tcB (l:List Vl) (r:Int) (ws:List ByteArray) (hs:List Int):Bool:=noneB r ws hs || (inB r 1 10000 && (allV l ws && (quoB l ws && (decide (hs.length=ws.length) && hisB r hs))))
theorem RdI.at {w:World} {a:Option Addr} {cap k:Nat} {l:List Int} (h:RdI w (.slice a l.length cap) l) (hk:k < l.length) :
    ∃ b off,a=some ⟨b,off,none⟩/\l.length<=cap/\cap<=maxLen/\b < w.heap.size/\w.cell? ⟨b,off+k,none⟩=some (.int .i64 l[k]):=by
  rcases h with ⟨a',cap',e,rfl,-⟩ | ⟨b,off,cap',h0,e,h1,h2,h3,h4⟩
  · simp at hk
  · simp only [Value.slice.injEq] at e
    obtain ⟨rfl,-,rfl⟩:=e
    exact ⟨b,off,rfl,h1,h2,h3,h4 k hk⟩
theorem sameC_regrown {P:Program} {f:FuncId} {args:Array Value} {w:World} {d:Nat} {os:Array Obj} {v:Value}
    (h:Calls P f args (grow (redrawn w d) os) fun e w'=>e=.returned v/\w'=grow (redrawn w d) os):Calls P f args (grow (redrawn w d) os) fun e w''=>e=.returned v/\∃ p:Regrown,w''=grow (redrawn w p.d) p.os :=
  h.mono fun _ _ ⟨he,hw⟩=>⟨he,⟨⟨d,os⟩,hw⟩⟩
end Go.Proofs.YthehfkafcdociaaGreatDoor
namespace Go.Proofs.YthehfkafcdociaaGreatDoor
open Go.RowKit
set_option linter.unusedVariables false
abbrev Tx5:=Int × ByteArray × ByteArray × Int × Int
def txV (t:Tx5):Value:=.agg #[.int .i64 t.1,.string t.2.1,.string t.2.2.1,.int .i64 t.2.2.2.1,.int .i64 t.2.2.2.2]
def txB (t:Tx5):Bool:=nmB t.2.1 && (inB t.2.2.2.1 1 1000000 && (inB t.2.2.2.2 0 10000 && (if t.1=1 then nmB t.2.2.1 else (inB t.1 2 3 && decide (t.2.2.1=ByteArray.empty)))))
def lessT (a b:Tx5):Bool :=
  if a.2.1 ≠ b.2.1 then Op.bytesLess a.2.1.toList b.2.1.toList
  else if a.2.2.2.2 ≠ b.2.2.2.2 then decide (a.2.2.2.2 < b.2.2.2.2)
  else if a.1 ≠ b.1 then decide (a.1 < b.1)
  else if a.2.2.1 ≠ b.2.2.1 then Op.bytesLess a.2.2.1.toList b.2.2.1.toList
  else decide (a.2.2.2.1 < b.2.2.2.1)
theorem toTx_any (t:Tx5) (w:World):Calls Tryz.prog 128 #[txV t] w fun e w'=>e=.returned (txV t)/\Below w.heap.size w w':=by
  obtain ⟨k,f,tO,am,no⟩:=t
  simp only [txV]
  go_enter Tryz.func128,Tryz.ntmps128
  go_wp2
  refine bodyPost_ret (v:=.agg #[.int .i64 k,.string f,.string tO,.int .i64 am,.int .i64 no]) (by simp [results,Tryz.f128,go_sem]) rfl ?_
  exact ⟨rfl,((((Below.refl _ w).alloc (Nat.le_refl _) _).alloc (by simp) _).alloc (by simp;omega) _)⟩
theorem eqTx_any (a b:Tx5) (w:World):Calls Tryz.prog 136 #[txV a,txV b] w fun e w'=>e=.returned (.bool (decide (a=b)))/\Below w.heap.size w w':=by
  obtain ⟨k1,f1,t1,m1,n1⟩:=a
  obtain ⟨k2,f2,t2,m2,n2⟩:=b
  simp only [txV]
  have HB:=hide (((Below.refl _ w).alloc (Nat.le_refl _) (.cells #[.int .i64 k1,.string f1,.string t1,.int .i64 m1,.int .i64 n1] 117)).alloc (by simp) (.cells #[.int .i64 k2,.string f2,.string t2,.int .i64 m2,.int .i64 n2] 117))
  by_cases h1:k1=k2
  · by_cases h2:f1=f2
    · by_cases h3:t1=t2
      · by_cases h4:m1=m2
        · by_cases h5:n1=n2
          · subst h1 h2 h3 h4 h5
            have Hd:Hid (decide (((k1,f1,t1,m1,n1):Tx5)=(k1,f1,t1,m1,n1))=true):=hide (by simp)
            go_enter Tryz.func136,Tryz.ntmps136
            go_wp2
            go_ret
            exact ⟨ret_bool Hd.out.symm,HB.out⟩
          · subst h1 h2 h3 h4
            have Hd:Hid (decide (((k1,f1,t1,m1,n1):Tx5)=(k1,f1,t1,m1,n2))=false):=hide (by simp [h5])
            have hq:(n1 != n2)=true:=by rw [bne_iff_ne];exact h5
            clear h5
            go_enter Tryz.func136,Tryz.ntmps136
            go_wp2
            go_ret
            exact ⟨ret_bool Hd.out.symm,HB.out⟩
        · subst h1 h2 h3
          have Hd:Hid (decide (((k1,f1,t1,m1,n1):Tx5)=(k1,f1,t1,m2,n2))=false):=hide (by simp [h4])
          have hq:(m1 != m2)=true:=by rw [bne_iff_ne];exact h4
          clear h4
          go_enter Tryz.func136,Tryz.ntmps136
          go_wp2
          go_ret
          exact ⟨ret_bool Hd.out.symm,HB.out⟩
      · subst h1 h2
        have Hd:Hid (decide (((k1,f1,t1,m1,n1):Tx5)=(k1,f1,t2,m2,n2))=false):=hide (by simp [h3])
        have hq:=bytes_ne h3
        clear h3
        go_enter Tryz.func136,Tryz.ntmps136
        go_wp2
        go_ret
        exact ⟨ret_bool Hd.out.symm,HB.out⟩
    · subst h1
      have Hd:Hid (decide (((k1,f1,t1,m1,n1):Tx5)=(k1,f2,t2,m2,n2))=false):=hide (by simp [h2])
      have hq:=bytes_ne h2
      clear h2
      go_enter Tryz.func136,Tryz.ntmps136
      go_wp2
      go_ret
      exact ⟨ret_bool Hd.out.symm,HB.out⟩
  · have Hd:Hid (decide (((k1,f1,t1,m1,n1):Tx5)=(k2,f2,t2,m2,n2))=false):=hide (by simp [h1])
    have hq:(k1 != k2)=true:=by rw [bne_iff_ne];exact h1
    clear h1
    go_enter Tryz.func136,Tryz.ntmps136
    go_wp2
    go_ret
    exact ⟨ret_bool Hd.out.symm,HB.out⟩
def szT (t:Tx5) (m:Int):Int:=if m - t.2.1.size < 0 then -1 else if m - t.2.1.size - t.2.2.1.size < 0 then -1 else m - t.2.1.size - t.2.2.1.size
theorem szTx_any (t:Tx5) (m:Int) (w:World) (hm0:0<=m) (hm:m<=100000000) (hn:t.2.1.size<=9223372036854775807) (hl:t.2.2.1.size<=9223372036854775807) :
    Calls Tryz.prog 119 #[txV t,.int .i64 m] w fun e w'=>e=.returned (.int .i64 (szT t m))/\Below w.heap.size w w':=by
  obtain ⟨k1,f1,t1,m1,n1⟩:=t
  have HB:=hide ((Below.refl _ w).alloc (Nat.le_refl _) (.cells #[.int .i64 k1,.string f1,.string t1,.int .i64 m1,.int .i64 n1] 200))
  simp only [txV] at *
  have w1:IntKind.i64.wrap (m - (f1.size:Int))=m - f1.size:=by rw [IntKind.wrap_i64];omega
  by_cases h1:m - (f1.size:Int) < 0
  · have Hs:Hid (szT (k1,f1,t1,m1,n1) m=-1):=hide (by unfold szT;rw [if_pos h1])
    go_enter Tryz.func119,Tryz.ntmps119
    go_wp2
    go_ret
    exact ⟨ret_int Hs.out.symm,HB.out⟩
  · have w2:IntKind.i64.wrap (m - (f1.size:Int) - (t1.size:Int))=m - f1.size - t1.size:=by rw [IntKind.wrap_i64];omega
    by_cases h2:m - (f1.size:Int) - (t1.size:Int) < 0
    · have Hs:Hid (szT (k1,f1,t1,m1,n1) m=-1):=hide (by unfold szT;rw [if_neg h1,if_pos h2])
      go_enter Tryz.func119,Tryz.ntmps119
      go_wp2
      go_ret
      exact ⟨ret_int Hs.out.symm,HB.out⟩
    · have Hs:Hid (szT (k1,f1,t1,m1,n1) m=m - f1.size - t1.size):=hide (by unfold szT;rw [if_neg h1,if_neg h2])
      go_enter Tryz.func119,Tryz.ntmps119
      go_wp2
      go_ret
      exact ⟨ret_int Hs.out.symm,HB.out⟩
def dg:Nat->Nat->List UInt8->List UInt8
  | 0,_,acc=>acc
  | f+1,k,acc=>if k=0 then acc else dg f (k / 10) (UInt8.ofNat (48+k % 10) :: acc)
def mtx (k:Nat):ByteArray:=⟨(109 :: dg k k []).toArray⟩
theorem dg_step (f k:Nat) (acc:List UInt8) (h:0 < k) (hf:k<=f):dg f k acc=dg (f - 1) (k / 10) (UInt8.ofNat (48+k % 10) :: acc):=by
  cases f with
  | zero=>omega
  | succ f=>rw [dg,if_neg (by omega)];rfl
theorem dg_zero (f:Nat) (acc:List UInt8):dg f 0 acc=acc:=by
  cases f with
  | zero=>rfl
  | succ f=>rw [dg,if_pos rfl]
theorem str_one (w:World) (x:Int) (c:UInt8) (h:x=(c.toNat:Int)):(convert 191 9 (.slice (some ⟨w.heap.size,0,none⟩) 1 1)).run Tryz.prog (w.alloc (.cells #[.int .u8 x] 5))=.ok (.string ⟨[c].toArray⟩) (w.alloc (.cells #[.int .u8 x] 5)):=by
  have:=run_convert_bytes_back (P:=Tryz.prog) (w.alloc (.cells #[.int .u8 x] 5)) 191 9 5 ⟨w.heap.size,0,none⟩ 1 [c] Tryz.underlying191 Tryz.underlying5 Tryz.underlying9 (by
    intro j hj
    simp only [List.length_cons,List.length_nil] at hj
    have:j=0:=by omega
    subst this
    simp [Addr.add,World.cell?_alloc_at,h])
  simpa using this
theorem str_app (c:UInt8) (acc:List UInt8):(⟨#[c]⟩ ++ ⟨acc.toArray⟩:ByteArray)=⟨(c :: acc).toArray⟩:=by
  apply ByteArray.ext
  simp
theorem byte_of' (m:Nat) (h:m < 256):(m:Int)=((UInt8.ofNat m).toNat:Int):=by
  rw [UInt8.toNat_ofNat'];omega
theorem markText_any (k:Nat) (w:World) (h0:0 < k) (hk:k<=200000000) :
    Calls Tryz.prog 69 #[.int .i64 (k:Int)] w fun e w'=>e=.returned (.string (mtx k))/\Below w.heap.size w w':=by
  have HM:Hid (mtx k=⟨(109 :: dg k k []).toArray⟩):=hide rfl
  go_enter Tryz.func69,Tryz.ntmps69
  go_wp2
  go_loopw [0,3] (fun kv ov wr=>∃ (j f:Nat) (acc:List UInt8),kv=.int .i64 (j:Int)/\ov=.string ⟨acc.toArray⟩/\dg k k []=dg f j acc/\j<=f/\acc.length+f=k/\Below w.heap.size w wr) (fun kv _ _=>(intOf kv).toNat)
  case atStart=>exact ⟨k,k,[],rfl,rfl,rfl,Nat.le_refl _,by simp,Below.refl _ _⟩
  case round =>
    obtain ⟨j,f,acc,rfl,rfl,hd,hjf,haf,hb⟩:=hrel
    have Hd:=hide hd
    have Haf:=hide haf
    have hal:acc.length<=200000000:=by omega
    have hfl:f<=200000000:=by omega
    have hsz:=hb.size
    clear hd haf
    by_cases hj:0 < j
    · have Hst:=hide (dg_step f j acc hj hjf)
      obtain ⟨C,hC,hC2⟩:∃ C:Nat,48+j % 10=C/\C < 256:=⟨_,rfl,by omega⟩
      have k1:=str_one wr (48+(j:Int) % 10) (UInt8.ofNat C) (by have:=byte_of' C hC2;omega)
      rw [hC] at Hst
      clear hC
      have Hb:=hide hb
      clear hb
      go_wp2
      go_roundw
      case rel=>exact ⟨j / 10,f - 1,UInt8.ofNat C :: acc,by go_num,by rw [str_app],Hd.out.trans Hst.out,by omega,by have:=Haf.out;simp;omega,Hb.out.alloc hsz _⟩
      case measure=>simp [intOf];omega
    · have hj0:j=0:=by omega
      subst hj0
      have Hz:=hide (dg_zero f acc)
      go_wp2
      go_ret
      exact ⟨by rw [HM.out,Hd.out,Hz.out,<- str_app];rfl,hb⟩
def mkS (k n:Nat):List ByteArray:=(List.range n).map (fun i=>mtx (k+i))
theorem mkS_len (k n:Nat):(mkS k n).length=n:=by simp [mkS]
theorem mkS_at (k n j:Nat) (h:j < (mkS k n).length):(mkS k n)[j]=mtx (k+j):=by simp [mkS]
theorem own_below {B base:Nat} {w w':World} {e:TypeId} {size:Nat} {v:Value} {n:Nat} {xs:List Value} (h:w.ownsRow base e size v n xs) (hb:Below B w w') (hB:w.heap.size<=B):w'.ownsRow base e size v n xs:=by
  refine ⟨h.1,?_⟩
  rcases h.2 with h' | ⟨g,cap,cur,hv,hbb,hg,r⟩
  · exact .inl h'
  · refine .inr ⟨g,cap,cur,hv,hbb,?_,r⟩
    have hlt:g < w.heap.size:=(Array.getElem?_eq_some_iff.1 hg).1
    rw [hb.block g (by omega)];exact hg
theorem grown_below {w w':World} (row:Option Nat) (h:Below w.heap.size w w'):w.grownBy w' row :=
  ⟨h.os,h.tape,h.output,h.size,fun k hk _=>h.block k hk⟩
theorem grownS_trans {a b c:World} {row:Option Nat} (h:a.grownBy b row) (k:b.grownBy c row):a.grownBy c row :=
  ⟨k.os.trans h.os,k.tape.trans h.tape,k.output.trans h.output,Nat.le_trans h.size k.size,fun i hi hr=>(k.block i (Nat.lt_of_lt_of_le hi h.size) hr).trans (h.block i hi hr)⟩
theorem markStringS_any (v:Value) (l:List ByteArray) (k base:Nat) (w:World) (ho:OwnS base w v l) (hl:l.length<=10000000) (hk:k<=100000000) (hk0:0 < k) :
    Calls Tryz.prog 40 #[v,.int .i64 (k:Int)] w fun e w'=>e=.returned (.int .i64 ((k+l.length:Nat):Int))/\OwnS base w' v (mkS k l.length)/\w.grownBy w' v.ownBlock:=by
  have hML:=mkS_len k l.length
  have hMA:=mkS_at k l.length
  generalize hMd:mkS k l.length=M at hML hMA
  clear hMd
  rcases ho.2 with ⟨rfl,hn⟩ | ⟨g,cap,cur,rfl,_,_,_,hcm,_,_⟩
  · have e:l=[]:=List.length_eq_zero_iff.1 hn
    subst e
    have e2:M=[]:=List.length_eq_zero_iff.1 hML
    subst e2
    have Ho:=hide ho
    clear ho
    go_enter Tryz.func40,Tryz.ntmps40
    go_wp2
    refine wp_loop_rounds 1 ?_
    rw [rounds_succ]
    go_wp2
    go_ret
    exact ⟨rfl,Ho.out,World.grownBy.refl _ _⟩
  · have Ho:=hide ho
    have HML:=hide hML
    have HMA:=hide hMA
    have hMl:l.length<=M.length:=by omega
    have hMg:M.length<=l.length:=by omega
    clear ho hML hMA
    go_enter Tryz.func40,Tryz.ntmps40
    go_wp2
    go_loopw [1,5] (fun kv iv wr=>∃ j:Nat,j<=l.length/\iv=.int .i64 (j:Int)/\kv=.int .i64 ((k+j:Nat):Int)/\wr.ownsRow base 9 1 (.slice (some ⟨g,0,none⟩) l.length cap) l.length ((M.take j ++ l.drop j).map Value.string)/\w.grownBy wr (some g))
      (fun _ iv _=>l.length - (intOf iv).toNat)
    case atStart=>exact ⟨0,Nat.zero_le _,rfl,rfl,by simpa [OwnS] using Ho.out,World.grownBy.refl _ _⟩
    case round =>
      obtain ⟨j,hj,rfl,rfl,hown,hgr⟩:=hrel
      by_cases hlt:j < l.length
      · have hjM:j < M.length:=by omega
        obtain ⟨K,hK⟩:∃ K:Nat,k+j=K:=⟨_,rfl⟩
        have hK2:K<=200000000:=by omega
        have hK0:0 < K:=by omega
        have Hm:=hide (fun w=>markText_any K w hK0 hK2)
        have eM:M[j]=mtx K:=by rw [HMA.out j hjM,hK]
        rw [hK]
        have HK:=hide hK
        clear hK
        have Hown:=hide hown
        have Hgr:=hide hgr
        clear hown hgr
        go_wp2_with fail
        refine (Hm.out _).mono ?_
        rintro e w2 ⟨rfl,hb2⟩
        have hown2:=own_below Hown.out hb2 (Nat.le_refl _)
        have hf:=hown2.frozenAt j
        have hd:=hown2.cellAt j (by omega)
        obtain ⟨u,hu⟩:∃ u,((M.take j ++ l.drop j).map Value.string)[j]?=some u:=⟨_,List.getElem?_eq_getElem (by simp;omega)⟩
        rw [hu] at hd
        have hst:=hown2.stored j (.string M[j])
        rw [gen_set M l Value.string j HML.out hjM,eM] at hst
        have Hst:=hide hst
        have Hb2:=hide hb2
        clear hst hown2 hu eM hb2
        go_wp2
        go_roundw
        case rel=>exact ⟨j+1,by omega,by go_num,by rw [show k+(j+1)=K+1 from by have:=HK.out;omega];go_num,Hst.out.1,grownS_trans (grownS_trans Hgr.out (grown_below _ Hb2.out)) Hst.out.2⟩
        case measure=>simp [intOf];omega
      · have e:M.take j ++ l.drop j=M:=by rw [List.take_of_length_le (by omega),List.drop_of_length_le (by omega),List.append_nil]
        rw [e] at hown
        have ho':OwnS base wr (.slice (some ⟨g,0,none⟩) l.length cap) M:=by
          unfold OwnS
          rw [HML.out]
          exact hown
        have e2:j=l.length:=by omega
        have Ho':=hide ho'
        have Hgr:=hide hgr
        clear ho' hgr hown e
        subst e2
        go_wp2
        go_ret
        exact ⟨rfl,Ho'.out,Hgr.out⟩
end Go.Proofs.YthehfkafcdociaaGreatDoor
