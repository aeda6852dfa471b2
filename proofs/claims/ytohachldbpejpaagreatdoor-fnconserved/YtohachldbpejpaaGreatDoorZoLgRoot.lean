/- The root of a ledger's accounts. -/
import Derived.Laws.BytesString
import Derived.Test.YtohachldbpejpaaGreatDoorZoDigImpl
import Derived.Test.YtohachldbpejpaaGreatDoorZoMerkRoot
import Derived.Lib.Strings
import Derived.Lib.Slices
import Derived.Lib.Small
import Derived.Lib.Walk
import Derived.Lib.BitFns
import Derived.Test.YtohachldbpejpaaGreatDoorZoLgText
set_option maxRecDepth 100000
set_option maxHeartbeats 4000000
namespace Go.Proofs.YtohachldbpejpaaGreatDoor
open Go.RowKit
set_option linter.unusedVariables false
structure OwnM (base:Nat) (w:World) (g cap:Nat) (l:List UInt8):Prop where
  ge:base<=g
  lt:g < w.heap.size
  le:l.length<=cap
  mx:cap<=maxLen
  cells:∀ i (h:i < l.length),w.cell? ⟨g,i,none⟩=some (.int .u8 (l[i].toNat:Int))
  room:∀ i,i < cap->(w.cell? ⟨g,i,none⟩).isSome=true/\w.frozen? ⟨g,i,none⟩=false
theorem OwnM.rd {base:Nat} {w:World} {g cap:Nat} {l:List UInt8} (h:OwnM base w g cap l):RdB w (.slice (some ⟨g,0,none⟩) l.length cap) l:=by
  by_cases hl:l=[]
  · subst hl;exact .inl ⟨_,_,rfl,rfl,fun h=>by cases h⟩
  · exact .inr ⟨g,0,cap,hl,rfl,h.le,h.mx,h.lt,fun i hi=>by rw [Nat.zero_add];exact h.cells i hi⟩
theorem conv_own (w:World) (s:ByteArray) (hs:s.size<=9000000):∃ cap w',(convert 9 22 (.string s)).run Tryz.prog w=.ok (.slice (some ⟨w.heap.size,0,none⟩) s.size cap) w'/\OwnM w.heap.size w' w.heap.size cap s.data.toList/\Below w.heap.size w w':=by
  have hr:=run_bytes_of_string (P:=Tryz.prog) w 9 22 5 s Tryz.underlying9 Tryz.underlying22 Tryz.underlying5
  have hge:=grownCap_ge w s.size 0 5
  have hmx:=grownCap_le_maxLen w s.size 0 5 (by unfold maxLen;omega)
  generalize grownCap w s.size 0 5=cap at hr hge hmx
  have hsz:(bytesRow s cap).size=cap:=by
    simp only [bytesRow,Array.size_append,Array.size_map,Array.size_replicate]
    have:s.data.size=s.size:=rfl
    omega
  refine ⟨cap,_,hr,⟨Nat.le_refl _,by simp,by simpa using hge,hmx,?_,?_⟩,(Below.refl _ _).drew.alloc (Nat.le_refl _) _⟩
  · intro i hi
    rw [show (w.drew.alloc (.cells (bytesRow s cap) 5 ((bytesRow s cap).size,(bytesRow s cap).size+1))).cell? ⟨w.heap.size,i,none⟩=(bytesRow s cap)[i]? from cell_of_row _ w.heap.size i _ _ _ (heap_alloc_new w.drew _)]
    rw [bytesRow_at s cap i (by simpa using hi)]
    rfl
  · intro i hi
    constructor
    · rw [show (w.drew.alloc (.cells (bytesRow s cap) 5 ((bytesRow s cap).size,(bytesRow s cap).size+1))).cell? ⟨w.heap.size,i,none⟩=(bytesRow s cap)[i]? from cell_of_row _ w.heap.size i _ _ _ (heap_alloc_new w.drew _)]
      rw [Array.getElem?_eq_getElem (by rw [hsz];exact hi)]
      rfl
    · have:=World.frozen?_alloc_mark w.drew (bytesRow s cap) 5 (bytesRow s cap).size ((bytesRow s cap).size+1) i
      rw [show w.drew.heap.size=w.heap.size from rfl] at this
      rw [this,hsz]
      simp
      omega
theorem implDig (v:Value) (l:List UInt8) (w:World) (hr:RdB w v l) (hl:l.length<=4000000) (hgl:Gl w) (D:ByteArray) (hD:(⟨(dig l).toArray⟩:ByteArray)=D) :
    Calls Tryz.prog 118 #[v] w fun e w'=>e=.returned (.string D)/\Below w.heap.size w w':=by
  subst hD
  exact implDigest_any v l w hr hl hgl
theorem cat_size (a b:ByteArray):(a ++ b).size=a.size+b.size:=by simp
theorem cat_list (a b:ByteArray):(a ++ b).data.toList=a.data.toList ++ b.data.toList:=by simp
theorem implLeaf_any (s:ByteArray) (w:World) (hs:s.size<=3000000) (hgl:Gl w) :
    Calls Tryz.prog 119 #[.string s] w fun e w'=>e=.returned (.string (leafB s))/\Below w.heap.size w w':=by
  have hz:(({ data:=#[0] }:ByteArray) ++ s).size=1+s.size:=cat_size _ _
  have hl:(({ data:=#[0] }:ByteArray) ++ s).data.toList=0 :: s.data.toList:=cat_list _ _
  obtain ⟨cap,w4,hcv,hM,hb4⟩:=conv_own w (({ data:=#[0] }:ByteArray) ++ s) (by omega)
  have hll:(({ data:=#[0] }:ByteArray) ++ s).data.toList.length=1+s.size:=by rw [hl];simp;omega
  have Hr:=hide hM.rd
  rw [hll] at Hr
  rw [hl] at Hr
  rw [hz] at hcv
  have Hgl:=hide (hgl.below hb4 (Nat.le_refl _))
  have Hb4:=hide hb4
  have hln:(0 :: s.data.toList).length=1+s.size:=by simp;omega
  clear hgl hM hb4 hz hl hll
  go_enter Tryz.func119,Tryz.ntmps119
  go_wp2_with fail
  refine (implDig _ _ _ Hr.out (by omega) Hgl.out (leafB s) rfl).mono ?_
  rintro e w3 ⟨rfl,hb3⟩
  have hB3:Below w.heap.size w w3:=Hb4.out.trans (hb3.mono Hb4.out.size)
  go_wp2
  go_ret
  exact ⟨rfl,hB3⟩
theorem implNode_any (a b:ByteArray) (w:World) (ha:a.size<=1500000) (hb:b.size<=1500000) (hgl:Gl w) :
    Calls Tryz.prog 121 #[.string a,.string b] w fun e w'=>e=.returned (.string (nodeB a b))/\Below w.heap.size w w':=by
  have hz:(({ data:=#[1] }:ByteArray) ++ a ++ b).size=1+a.size+b.size:=by rw [cat_size,cat_size];rfl
  have hl:(({ data:=#[1] }:ByteArray) ++ a ++ b).data.toList=1 :: a.data.toList ++ b.data.toList:=by rw [cat_list,cat_list];rfl
  obtain ⟨cap,w4,hcv,hM,hb4⟩:=conv_own w (({ data:=#[1] }:ByteArray) ++ a ++ b) (by omega)
  have hln:(1 :: a.data.toList ++ b.data.toList).length=1+a.size+b.size:=by simp;omega
  have hll:(({ data:=#[1] }:ByteArray) ++ a ++ b).data.toList.length=1+a.size+b.size:=by rw [hl];exact hln
  have Hr:=hide hM.rd
  rw [hll] at Hr
  rw [hl] at Hr
  rw [hz] at hcv
  have Hgl:=hide (hgl.below hb4 (Nat.le_refl _))
  have Hb4:=hide hb4
  clear hgl hM hb4 hz hl hll
  go_enter Tryz.func121,Tryz.ntmps121
  go_wp2_with fail
  refine (implDig _ _ _ Hr.out (by omega) Hgl.out (nodeB a b) rfl).mono ?_
  rintro e w3 ⟨rfl,hb3⟩
  have hB3:Below w.heap.size w w3:=Hb4.out.trans (hb3.mono Hb4.out.size)
  go_wp2
  go_ret
  exact ⟨rfl,hB3⟩
theorem bitsLen64_int (x:Int) (w:World) (h0:0<=x) (hx:x<=255) :
    Calls Tryz.prog 212 #[.int .u64 x] w fun e w'=>e=.returned (.int .i64 (Lib.bitLen x.toNat:Int))/\w'=w:=by
  have h1:x < 4294967296:=by omega
  have h2:x < 65536:=by omega
  have h3:x < 256:=by omega
  go_enter Tryz.func212,Tryz.ntmps212
  go_wp2
  all_goals (go_ret;refine ⟨congrArg Ending.returned (congrArg (Value.int IntKind.i64) ?_),rfl⟩)
  all_goals (
    have l:=Lib.bitLen_le8' x h0 (by omega)
    rw [Lib.len8_of x h0 (by omega)]
    unfold wrap64
    omega)
theorem bitsLen_any (x:Nat) (w:World) (hx:x<=255) :
    Calls Tryz.prog 176 #[.int .u64 (x:Int)] w fun e w'=>e=.returned (.int .i64 (Lib.bitLen x:Int))/\w'=w:=by
  have H:=hide (bitsLen64_int (x:Int) w (by omega) (by omega))
  rw [Int.toNat_natCast] at H
  go_enter Tryz.func176,Tryz.ntmps176
  go_wp2_with fail
  refine H.out.mono ?_
  rintro e w ⟨rfl,rfl⟩
  go_wp2
  go_ret
  exact ⟨rfl,rfl⟩
theorem half_bits:∀ n:Fin 65,2<=n.val->1<=Lib.bitLen (n.val - 1)/\Lib.bitLen (n.val - 1)<=6/\2 ^ (Lib.bitLen (n.val - 1) - 1)=half n.val:=by decide +kernel
theorem firstPart_any (n:Nat) (w:World) (h2:2<=n) (hn:n<=64) :
    Calls Tryz.prog 120 #[.int .i64 (n:Int)] w fun e w'=>e=.returned (.int .i64 (half n:Int))/\w'=w:=by
  obtain ⟨k1,k2,k3⟩:=half_bits ⟨n,by omega⟩ h2
  have H:=hide (bitsLen_any (n - 1) w (by omega))
  dsimp only at k1 k2 k3
  generalize Lib.bitLen (n - 1)=K at H k1 k2 k3
  obtain ⟨m,rfl⟩:∃ m,n=m+1:=⟨n - 1,by omega⟩
  rw [show m+1 - 1=m from by omega] at H
  rw [<- k3]
  clear k3
  have hm1:((m+1:Nat):Int)=(m:Int)+1:=by omega
  rw [hm1]
  have i1:(1:Int)<=(m:Int):=by omega
  have i2:(m:Int)<=63:=by omega
  rcases (show K=1\/K=2\/K=3\/K=4\/K=5\/K=6 from by omega) with rfl | rfl | rfl | rfl | rfl | rfl
  all_goals (
    go_enter Tryz.func120,Tryz.ntmps120
    go_wp2_with fail
    refine H.out.mono ?_
    rintro e w ⟨rfl,rfl⟩
    go_wp2
    go_ret
    exact ⟨rfl,rfl⟩)
theorem Gl.drew' {w:World} (h:Gl w):Gl w.drew:=h.below (Below.refl _ _).drew (Nat.le_refl _)
theorem implRoot_at:∀ (n:Nat) (l:List ByteArray) (v:Value) (w:World),l.length<=n->n<=64->RdS w v l->(∀ s ∈ l,s.size<=1500000)->Gl w ->
    Calls Tryz.prog 56 #[v] w fun e w'=>e=.returned (.string (rootM l))/\Below w.heap.size w w':=by
  intro n
  induction n with
  | zero =>
    intro l v w hl hn hr hs hgl
    have e:l=[]:=List.length_eq_zero_iff.1 (by omega)
    subst e
    obtain ⟨a,cap,rfl⟩:=hr.shape
    have Hgl:=hide hgl
    clear hr hs hgl
    go_enter Tryz.func56,Tryz.ntmps56
    go_wp2_with fail
    refine (implDig _ [] _ (.inl ⟨none,0,rfl,rfl,fun _=>rfl⟩) (by simp) Hgl.out noneM rfl).mono ?_
    rintro e w2 ⟨rfl,hb2⟩
    go_wp2
    go_ret
    exact ⟨by rw [rootM_nil];rfl,hb2⟩
  | succ n ih =>
    intro l v w hl hn hr hs hgl
    by_cases h0:l.length<=n
    · exact ih l v w h0 (by omega) hr hs hgl
    · by_cases h1:l.length=1
      · obtain ⟨s,rfl⟩:∃ s,l=[s]:=by
          match l,h1 with
          | [s],_=>exact ⟨s,rfl⟩
        rcases hr with ⟨_,_,_,e,_⟩ | ⟨b,off,cap,_,rfl,hc1,hc2,hb,hcell⟩
        · cases e
        · have hc:=hcell 0 (by simp)
          have hsz:=hs s (by simp)
          simp only [Nat.add_zero,List.getElem_cons_zero] at hc
          have Hr:=hide (rootM_one s)
          have Hgl:=hide hgl
          clear hcell hs ih hgl
          go_enter Tryz.func56,Tryz.ntmps56
          go_wp2_with fail
          refine (implLeaf_any s _ (by omega) Hgl.out).mono ?_
          rintro e w2 ⟨rfl,hb2⟩
          go_wp2
          go_ret
          exact ⟨by rw [Hr.out];rfl,hb2⟩
      · have h2:2<=l.length:=by
          by_cases hz:l.length=0
          · omega
          · omega
        rcases hr with ⟨_,_,_,e,_⟩ | ⟨b,off,cap,_,rfl,hc1,hc2,hb,hcell⟩
        · subst e;simp at h2
        · have hst:StrAt w b off l:=⟨hb,hcell⟩
          have hh:=half_lt l.length h2
          have Hr:=hide (rootM_more l h2)
          obtain ⟨K,hK⟩:∃ K,half l.length=K:=⟨_,rfl⟩
          obtain ⟨m,hm⟩:∃ m,l.length=m:=⟨_,rfl⟩
          have Hhalf:=hide (firstPart_any l.length w h2 (by omega))
          rw [hK] at hh Hr Hhalf
          have ht:(l.take K).length=K:=by simp;omega
          have hd:(l.drop K).length=m - K:=by simp [hm]
          have Ha:=hide (fun w (h:StrAt w b off (l.take K)) hg=>ih (l.take K) (.slice (some ⟨b,off,none⟩) K cap) w (by omega) (by omega) (by have:=h.rd (cap:=cap) (by omega) hc2;rwa [ht] at this) (fun s hsm=>hs s (List.mem_of_mem_take hsm)) hg)
          have Hb:=hide (fun w (h:StrAt w b (off+K) (l.drop K)) hg=>ih (l.drop K) (.slice (some ⟨b,off+K,none⟩) (m - K) (cap - K)) w (by omega) (by omega) (by have:=h.rd (cap:=cap - K) (by omega) (by omega);rwa [hd] at this) (fun s hsm=>hs s (List.mem_of_mem_drop hsm)) hg)
          have q1:=rootM_size (l.take K)
          have q2:=rootM_size (l.drop K)
          generalize hA:rootM (l.take K)=RA at Hr Ha q1
          generalize hB:rootM (l.drop K)=RB at Hr Hb q2
          rw [hm] at hh hc1 Hhalf ⊢
          have i1:(K:Int)<=(cap:Int):=by omega
          have i2:(K:Int)<=(m:Int):=by omega
          have i3:K < cap:=by omega
          have i4:¬ cap=K:=by omega
          have i5:(m:Int)<=(cap:Int):=by omega
          have i6:((m:Int) == 0)=false:=by rw [beq_eq_false_iff_ne];omega
          have i7:((m:Int) == 1)=false:=by rw [beq_eq_false_iff_ne];omega
          have i8:K<=m:=by omega
          have i9:K<=cap:=by omega
          have i10:m<=cap:=by omega
          have i11:(m:Int)<=64:=by omega
          have Hst:=hide hst
          have Hgl:=hide hgl.drew'
          clear hcell hs ih hst hA hB hK hm ht hd h0 h1 hgl
          go_enter Tryz.func56,Tryz.ntmps56
          go_wp2_with fail
          refine Hhalf.out.mono ?_
          rintro e w ⟨rfl,rfl⟩
          go_wp2
          go_region_with (first
            | (go_at_call 56;refine (Hb.out _ ((Hst.out.drew.drop K).below hba hb) hga).mono ?_;rintro e wb ⟨rfl,hbb⟩;have hgb:=hga.below hbb (Nat.le_refl _))
            | (go_at_call 56;refine (Ha.out _ (Hst.out.drew.take K) Hgl.out).mono ?_;rintro e wa ⟨rfl,hba⟩;have hga:=Hgl.out.below hba (Nat.le_refl _))
            | (go_at_call 121;refine (implNode_any RA RB _ (by omega) (by omega) hgb).mono ?_;rintro e wc ⟨rfl,hbc⟩))
          have s1:w.heap.size<=wa.heap.size:=hba.size
          have s2:=hbb.size
          have HB:Hid (Below w.heap.size w wc):=hide ((((Below.refl _ w).drew.trans hba).trans (hbb.mono s1)).trans (hbc.mono (Nat.le_trans s1 s2)))
          go_wp2
          go_ret
          exact ⟨by rw [Hr.out];rfl,HB.out⟩
theorem implRoot_any (l:List ByteArray) (v:Value) (w:World) (hl:l.length<=64) (hr:RdS w v l) (hs:∀ s ∈ l,s.size<=1500000) (hgl:Gl w) :
    Calls Tryz.prog 56 #[v] w fun e w'=>e=.returned (.string (rootM l))/\Below w.heap.size w w':=implRoot_at l.length l v w (Nat.le_refl _) hl hr hs hgl
theorem implRootOf_any (l:List ByteArray) (v:Value) (w:World) (hl:l.length<=9000000000000000000) (hr:RdS w v l) (hs:∀ s ∈ l,s.size<=1500000) (hgl:Gl w) :
    Calls Tryz.prog 56 #[v] w fun e w'=>e=.returned (.string (if 64 < l.length then ByteArray.empty else rootM l))/\Below w.heap.size w w':=by
  by_cases h:64 < l.length
  · rw [if_pos h]
    obtain ⟨a,cap,rfl⟩:=hr.shape
    have hi:(64:Int) < (l.length:Int):=by omega
    clear hs hr hgl
    go_enter Tryz.func56,Tryz.ntmps56
    go_wp2
    go_ret
    exact ⟨rfl,Below.refl _ _⟩
  · rw [if_neg h]
    exact implRoot_any l v w (by omega) hr hs hgl
def acT (a:Ac):ByteArray:=⟨(acP a).toArray⟩
def srB (e:Int) (l:List Ac):ByteArray:=if lgB e l=true then (if 64 < (l.map acT).length then ByteArray.empty else rootM (l.map acT)) else ByteArray.empty
structure AcSmall (a:Ac):Prop where
  nm:a.1.size<=1000
  lv:a.2.2.2.2.length<=1000
  b1:-9223372036854775808<=a.2.1/\a.2.1<=9223372036854775807
  b2:-9223372036854775808<=a.2.2.1/\a.2.2.1<=9223372036854775807
  b3:-9223372036854775808<=a.2.2.2.1/\a.2.2.2.1<=9223372036854775807
  b4:∀ p ∈ a.2.2.2.2,(-9223372036854775808<=p.1/\p.1<=9223372036854775807)/\(-9223372036854775808<=p.2/\p.2<=9223372036854775807)
theorem lvs_small {l:List (Int × Int)} (h:lvsB l=true):∀ p ∈ l,(-9223372036854775808<=p.1/\p.1<=9223372036854775807)/\(-9223372036854775808<=p.2/\p.2<=9223372036854775807):=by
  intro p hp
  obtain ⟨j,hj,rfl⟩:=List.mem_iff_getElem.1 hp
  unfold lvsB at h
  rw [List.all_eq_true] at h
  have:=h j (List.mem_range.2 hj)
  unfold lvAt at this
  rw [List.getD_eq_getElem?_getD,List.getElem?_eq_getElem hj] at this
  simp only [Bool.and_eq_true] at this
  have h1:=this.1
  have h2:=this.2.1
  unfold inB at h1 h2
  simp at h1 h2
  omega
theorem ac_small {a:Ac} (h:acB a=true):AcSmall a:=by
  unfold acB at h
  simp only [Bool.and_eq_true,decide_eq_true_eq] at h
  obtain ⟨h0,h1,h2,h3,h4,h5⟩:=h
  unfold nmB at h0
  simp only [Bool.and_eq_true] at h0
  have h6:=h0.2
  unfold inB at h1 h2 h3 h6
  simp only [decide_eq_true_eq] at h1 h2 h3 h6
  exact ⟨by omega,by omega,by omega,by omega,by omega,lvs_small h5⟩
theorem lg_small {e:Int} {l:List Ac} (h:lgB e l=true):∀ a ∈ l,AcSmall a:=by
  intro a ha
  obtain ⟨j,hj,rfl⟩:=List.mem_iff_getElem.1 ha
  unfold lgB acsB at h
  simp only [Bool.and_eq_true,List.all_eq_true] at h
  have:=h.2.1 j (List.mem_range.2 hj)
  unfold acAt at this
  rw [List.getD_eq_getElem?_getD,List.getElem?_eq_getElem hj,Bool.and_eq_true] at this
  exact ac_small this.1
theorem acT_size {a:Ac} (h:AcSmall a):(acT a).size<=1500000:=by
  have h1:=acHd_len a.1 a.2.1 a.2.2.1 a.2.2.2.1 (a.2.2.2.2.length:Int)
  have h2:=lvsP_len a.2.2.2.2
  have h3:=h.nm
  have h4:=h.lv
  have h5:(acT a).size=(acP a).length:=by simp [acT,ByteArray.size]
  rw [h5,acP,List.length_append]
  omega
theorem acT_all {l:List Ac} (h:∀ a ∈ l,AcSmall a):∀ s ∈ l.map acT,s.size<=1500000:=by
  intro s hs
  obtain ⟨a,ha,rfl⟩:=List.mem_map.1 hs
  exact acT_size (h a ha)
theorem acT_snoc (l:List Ac) (k:Nat) (h:k < l.length):(l.take (k+1)).map acT=(l.take k).map acT ++ [acT l[k]]:=by
  rw [List.take_succ_eq_append_getElem h,List.map_append];rfl
theorem RdA.at6 {w:World} {a:Option Addr} {cap i:Nat} {l:List Ac} (h:RdA w (.slice a l.length cap) l) (hi:i < l.length) :
    ∃ b off lv,a=some ⟨b,off,none⟩/\l.length<=cap/\cap<=maxLen/\b < w.heap.size/\AcAt w b (off+i * 5) l[i] lv/\RdL w lv l[i].2.2.2.2:=by
  rcases h with ⟨a',cap',e,rfl,-⟩ | ⟨b,off,cap',h0,e,h1,h2,h3,h4⟩
  · simp at hi
  · simp only [Value.slice.injEq,true_and] at e
    obtain ⟨rfl,rfl⟩:=e
    obtain ⟨lv,q1,q2⟩:=h4 i hi
    exact ⟨b,off,lv,rfl,h1,h2,h3,q1,q2⟩
theorem implStateRoot_any (e:Int) (v:Value) (l:List Ac) (w:World) (hr:RdA w v l) (hl:l.length<=4000000) (hall:∀ a ∈ l,a.1.size<=maxLen/\a.2.2.2.2.length<=4000000) (hgl:Gl w) :
    Calls Tryz.prog 15 #[lgV e v] w fun en w'=>en=.returned (.string (srB e l))/\Below w.heap.size w w':=by
  obtain ⟨a1,cv1,rfl⟩:=hr.shape
  simp only [lgV] at *
  obtain ⟨w2,hw2⟩:∃ w2,w.alloc (.cells #[.int .i64 e,.slice a1 l.length cv1] 26)=w2:=⟨_,rfl⟩
  have hb2:Below w.heap.size w w2:=by rw [<- hw2];exact (Below.refl _ w).alloc (Nat.le_refl _) _
  have k1:Blk w2 w.heap.size 26 [.int .i64 e,.slice a1 l.length cv1]:=by rw [<- hw2];exact Blk.new w _ _
  have HO:=hide (implLedgerOk_any e _ l w2 (hr.below hb2 (Nat.le_refl _)) hl hall)
  unfold lgV at HO
  have c0:=k1.cell 0
  have c1:=k1.cell 1
  simp only [List.getElem?_cons_zero,List.getElem?_cons_succ] at c0 c1
  have Hr:=hide hr
  have K1:=hide k1
  have Hb2:=hide hb2
  have Hgl:=hide hgl
  clear hr k1 hb2 hall hgl
  have Hsm:=hide (fun h=>lg_small (e:=e) (l:=l) h)
  have HX:Hid (srB e l=if lgB e l=true then (if 64 < (l.map acT).length then ByteArray.empty else rootM (l.map acT)) else ByteArray.empty):=hide rfl
  cases hx:lgB e l
  · rw [hx,if_neg (by simp)] at HX
    rw [hx] at HO
    clear hx Hsm
    go_enter Tryz.func15,Tryz.ntmps15
    go_wp2_with fail
    refine HO.out.mono ?_
    rintro en w3 ⟨rfl,hb3⟩
    have HB:=hide (Hb2.out.trans (hb3.mono Hb2.out.size))
    clear c0 c1 hb3 hw2
    go_wp2
    go_ret
    exact ⟨by rw [HX.out] <;> rfl,HB.out⟩
  · rw [hx,if_pos rfl] at HX
    rw [hx] at HO
    have hsm:=Hsm.out hx
    clear hx Hsm
    go_enter Tryz.func15,Tryz.ntmps15
    go_wp2_with fail
    refine HO.out.mono ?_
    rintro en w3 ⟨rfl,hb3⟩
    have hs3:=hb3.size
    have k3:=K1.out.below hb3 K1.out.lt
    have Hb3:=hide hb3
    clear c0 c1 hb3 hw2
    have c0:=k3.cell 0
    have c1:=k3.cell 1
    simp only [List.getElem?_cons_zero,List.getElem?_cons_succ] at c0 c1
    have b4:=Hb3.out
    go_wp2
    go_loopw [3,12] (fun tv iv wr=>∃ i:Nat,i<=l.length/\iv=.int .i64 (i:Int)/\OwnS w2.heap.size wr tv ((l.take i).map acT)/\Below w2.heap.size w2 wr) (fun _ iv _=>l.length - (intOf iv).toNat)
    case atStart=>exact ⟨0,by omega,rfl,by rw [List.take_zero];exact own_noneS _ _,b4⟩
    case round =>
      obtain ⟨i,hi,rfl,ho,hb⟩:=hrel
      clear k3 b4
      have hwr:=hb.size
      have kr:=K1.out.below hb K1.out.lt
      have c0:=kr.cell 0
      have c1:=kr.cell 1
      simp only [List.getElem?_cons_zero,List.getElem?_cons_succ] at c0 c1
      by_cases hlt:i < l.length
      · obtain ⟨b,off,lv,rfl,hc1,hc2,hbw,hA,hL⟩:=Hr.out.at6 hlt
        have hB:=Hb2.out.trans (hb.mono Hb2.out.size)
        have hA':=hA.below hB hbw
        have hL':=hL.below hB (Nat.le_refl _)
        have sm:=hsm l[i] (List.getElem_mem _)
        have Hsn:=hide (acT_snoc l i hlt)
        have htl:((l.take i).map acT).length<=4000000:=by simp;omega
        have HT:=hide (fun V (hv:Below wr.heap.size wr V)=>implText_any l[i] lv V (hL'.below hv (Nat.le_refl _)) sm.nm sm.lv sm.b1 sm.b2 sm.b3 sm.b4)
        have HaT:Hid (acT l[i]=⟨(acP l[i]).toArray⟩):=hide rfl
        generalize (l.take i).map acT=pre at ho Hsn htl
        generalize l[i]=A at hA' hL' sm HT Hsn HaT
        obtain ⟨An,Af,Ao,As,Al⟩:=A
        obtain ⟨q0,q1,q2,q3,q4⟩:=hA'
        simp only [acV] at q0 q1 q2 q3 q4 HT
        obtain ⟨av,cv,rfl⟩:=hL'.shape
        have hli:(i:Int) < (l.length:Int):=by omega
        have Ho:=hide ho
        have Hb:=hide hb
        clear hA hL hL' sm ho hb kr hB
        generalize acP (An,Af,Ao,As,Al)=R at HT HaT
        obtain ⟨w4,hw4⟩:∃ w4,wr.alloc (.cells #[.string An,.int .i64 Af,.int .i64 Ao,.int .i64 As,.slice av Al.length cv] 105)=w4:=⟨_,rfl⟩
        have b4:Below wr.heap.size wr w4:=by rw [<- hw4];exact (Below.refl _ wr).alloc (Nat.le_refl _) _
        have m4:Blk w4 wr.heap.size 105 [.string An,.int .i64 Af,.int .i64 Ao,.int .i64 As,.slice av Al.length cv]:=by rw [<- hw4];exact Blk.new wr _ _
        have x0:=m4.cell 0
        have x1:=m4.cell 1
        have x2:=m4.cell 2
        have x3:=m4.cell 3
        have x4:=m4.cell 4
        simp only [List.getElem?_cons_zero,List.getElem?_cons_succ] at x0 x1 x2 x3 x4
        have HT4:=hide (HT.out w4 b4)
        have hs4:=b4.size
        have Hb4:=hide b4
        clear m4 b4 HT
        go_wp2_with fail
        refine HT4.out.mono ?_
        rintro en w5 ⟨rfl,hb5⟩
        have o5:=(Ho.out.below Hb4.out (Nat.le_refl _)).below hb5 (Nat.le_refl _)
        have hs5:=hb5.size
        have Hb5:=hide ((Hb.out.trans (Hb4.out.mono hwr)).trans (hb5.mono (Nat.le_trans hwr hs4)))
        clear q0 q1 q2 q3 q4 c0 c1 hb5 x0 x1 x2 x3 x4 hw4
        rw [<- HaT.out]
        generalize acT (An,Af,Ao,As,Al)=X at Hsn
        go_wp2_with (at_builtin;refine app_ownS _ rfl _ _ rfl w2.heap.size _ _ pre [X] rfl rfl (o5.alloc _) (rd6_one _ _ X (by simp) (c6_at rfl rfl)) (by simp;omega) (by first | omega | (simp;omega)) ?_;intro v1 w6 ho1 hb6)
        have HB:=hide ((Hb5.out.alloc (by omega) (.cells #[.string X] 9)).trans hb6)
        go_roundw
        case rel=>exact ⟨i+1,by omega,by go_num,by rw [Hsn.out];exact ho1,HB.out⟩
        case measure=>simp [intOf];omega
      · have ei:i=l.length:=by omega
        subst ei
        rw [List.take_length] at ho
        have HR:=hide (implRootOf_any (l.map acT) u3 wr (by simp;omega) ho.rd (acT_all hsm) (Hgl.out.below (Hb2.out.trans (hb.mono Hb2.out.size)) (Nat.le_refl _)))
        have HB:=hide (Hb2.out.trans (hb.mono Hb2.out.size))
        generalize (if 64 < (l.map acT).length then ByteArray.empty else rootM (l.map acT))=R at HX HR
        clear ho hb kr hsm
        go_wp2_with fail
        refine HR.out.mono ?_
        rintro en w9 ⟨rfl,hb9⟩
        have HB9:=hide (HB.out.trans (hb9.mono HB.out.size))
        clear hb9 c0 c1
        go_wp2
        go_ret
        exact ⟨by rw [HX.out] <;> rfl,HB9.out⟩
end Go.Proofs.YtohachldbpejpaaGreatDoor
