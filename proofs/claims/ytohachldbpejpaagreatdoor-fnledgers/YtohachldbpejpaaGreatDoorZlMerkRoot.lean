/- The model's roots. -/
import Derived.Test.YtohachldbpejpaaGreatDoorZlBlSpec
import Derived.Test.YtohachldbpejpaaGreatDoorZlStrOwn
set_option maxRecDepth 20000
set_option maxHeartbeats 2000000
namespace Go.Proofs.YtohachldbpejpaaGreatDoor
open Go.RowKit
set_option linter.unusedVariables false
theorem RdB.drew {w:World} {v:Value} {l:List UInt8} (h:RdB w v l):RdB w.drew v l:=h.below ((Below.refl w.heap.size w).drew) (Nat.le_refl _)
theorem u8_at (x d:Nat):IntKind.u8.wrap ((x:Int) / (d:Int))=(((UInt8.ofNat (x / d % 256)).toNat:Nat):Int):=by
  rw [IntKind.wrap_u8',byte_at]
theorem u8_at1 (x:Nat):IntKind.u8.wrap (x:Int)=(((UInt8.ofNat (x % 256)).toNat:Nat):Int):=by
  rw [IntKind.wrap_u8',byte_at1]
theorem specDigest_any (v:Value) (l:List UInt8) (w:World) (hr:RdB w v l) (hl:l.length<=4000000) :
    Calls Tryz.prog 225 #[v] w fun e w'=>e=.returned (.string ⟨(bytesS (shaFold (padB l) (padQ l.length))).toArray⟩)/\Below w.heap.size w w':=by
  have Hp:=hide (specPadded_any v l w hr hl)
  clear hr
  obtain ⟨P,hP⟩:∃ P,padB l=P:=⟨_,rfl⟩
  obtain ⟨Q,hQ⟩:∃ Q,padQ l.length=Q:=⟨_,rfl⟩
  have hPQ:P.length=64 * Q:=by rw [<- hP,<- hQ];exact padB_q l
  have hQ1:1<=Q:=by rw [<- hQ];unfold padQ;omega
  have hQ2:Q<=70000:=by rw [<- hQ];unfold padQ;omega
  rw [hP] at Hp ⊢
  rw [hQ]
  have HPQ:=hide hPQ
  clear hP hQ hPQ
  go_enter Tryz.func225,Tryz.ntmps225
  go_wp2_with fail
  refine Hp.out.mono ?_
  rintro e w2 ⟨pv,rfl,ho,hb2⟩
  have hPQ:=HPQ.out
  obtain ⟨g,cap,hpv,hcap,hcm⟩:=ho.shape (by intro e;rw [e] at hPQ;simp at hPQ;omega)
  have hab:=ho.ab (by simpa using hpv) (Nat.le_refl _) (by omega)
  rw [hpv,hPQ]
  have hcap':64 * Q<=cap:=by omega
  have Hab:=hide hab.1
  have Hcm:=hide hab.2.2
  have Hb2:=hide hb2
  have hs2:=hb2.size
  clear hab ho hb2 hpv hcap hPQ Hp
  go_wp2_with fail
  refine (l2K_any _).mono ?_
  rintro e w3 ⟨rfl,hk3,hb3⟩
  have hs3:=hb3.size
  simp only [World.size_alloc] at hs3
  have Ha:Hid (An w3 w2.heap.size (shaFold P 0).list):=hide ((An.new w2 _ _ _ _ rfl rfl).below hb3 (by simp))
  have Hb3:Hid (Below w2.heap.size w2 w3):=hide (((Below.refl w2.heap.size w2).alloc (Nat.le_refl _) _).trans (hb3.mono (by simp)))
  have Hk:=hide hk3
  have Hab3:=hide (Hab.out.below Hb3.out (Nat.le_refl _))
  clear hk3 hb3 Hab
  have hkg:w2.heap.size+1 < w3.heap.size:=by have:=Hk.out.1;simp only [World.size_alloc] at this;exact this
  have Hk':Hid (An w3 (w2.heap.size+1) kC):=hide (by have:=Hk.out;simp only [World.size_alloc] at this;exact this)
  clear Hk
  go_wp2
  go_loopw [4,6] (fun ov iv' wr=>∃ (t at' gh ch:Nat),at'=64 * t/\t<=Q/\iv'=.int .i64 (at':Int)/\ov=.slice (some ⟨gh,0,none⟩) 8 ch/\An wr gh (shaFold P t).list/\Below w3.heap.size w3 wr) (fun _ iv' _=>64 * Q - (intOf iv').toNat)
  case atStart=>exact ⟨0,0,w2.heap.size,8,by omega,by omega,rfl,rfl,Ha.out,Below.refl _ _⟩
  case round =>
    clear Ha
    obtain ⟨t,at',gh,ch,hat,ht,rfl,rfl,han,hb⟩:=hrel
    by_cases hlt:t < Q
    · have hi1:(at':Int) < ((64 * Q:Nat):Int):=by omega
      obtain ⟨en,hen⟩:∃ en,at'+64=en:=⟨_,rfl⟩
      have hi2:(at':Int)+64=(en:Int):=by omega
      have hi3:(at':Int)<=(en:Int):=by omega
      have hi4:(en:Int)<=(cap:Int):=by omega
      have hi5:at' < cap:=by omega
      have hi6:en<=cap:=by omega
      have hi7:en - at'=64:=by omega
      have hi8:at'<=en:=by omega
      have hi9:¬ cap=at':=by omega
      have hPQ:=HPQ.out
      have Hfn:=hide (show shaFold P (t+1)=blockS (shaFold P t) (wordsB (blk P t)) from rfl)
      have hbl:=blk_len P t (by omega)
      have hab:=Hab3.out.below hb (Nat.le_refl _)
      have hcell:∀ i (h:i < (blk P t).length),wr.cell? ⟨g,at'+i,none⟩=some (.int .u8 ((blk P t)[i].toNat:Int)):=by intro i h;rw [blk_at P t i (by omega) h,hat];exact hab.2 (64 * t+i) (by omega)
      have Hcall:=hide (specBlock_any gh ch g at' (cap - at') (w2.heap.size+1) 64 (shaFold P t) (blk P t) wr (shaFold_lt P t) han (Hk'.out.below hb hkg) hbl (by omega) (by have:=Hcm.out;omega) hab.1 hcell)
      rw [<- Hfn.out] at Hcall
      have Hb:=hide hb
      have Hat:=hide hat
      have hsw:=hb.size
      clear hat han hb hab hcell hbl hPQ Hfn
      go_wp2_with fail
      refine Hcall.out.mono ?_
      rintro e wb ⟨g',cp,rfl,han',hg',hbb⟩
      go_wp2
      go_roundw
      case rel=>exact ⟨t+1,en,g',cp,by have:=Hat.out;omega,by omega,rfl,rfl,han',Hb.out.trans (hbb.mono hsw)⟩
      case measure=>simp [intOf];have:=Hat.out;omega
    · obtain ⟨wz,rfl⟩:∃ wz,wz=wr:=⟨_,rfl⟩
      have etq:t=Q:=by omega
      rw [etq] at han hat
      have hlq:decide ((at':Int) < 64 * (Q:Int))=false:=by rw [decide_eq_false_iff_not];omega
      have hge:((64 * Q:Nat):Int)<=(at':Int):=by omega
      obtain ⟨L,hL⟩:∃ L,(shaFold P Q).list=L:=⟨_,rfl⟩
      have hLl:L.length=8:=by rw [<- hL];rfl
      have hbs:bytesS (shaFold P Q)=L.flatMap be4:=by unfold bytesS;rw [hL]
      have Hbs:=hide hbs
      rw [hL] at han
      have Hbq:Hid (Below w.heap.size w wz):=hide (Hb2.out.trans ((Hb3.out.mono hs2).trans (hb.mono (by have:=Hb3.out.size;omega))))
      have hsz:w.heap.size<=wz.heap.size:=Hbq.out.size
      have Han:=hide han
      have hghl:gh < wz.heap.size:=han.1
      have Ho:=hide (own_nil wz wz.heap.size (Nat.le_refl _))
      have Hbr:=hide ((Below.refl wz.heap.size wz).alloc (Nat.le_refl _) (.cells #[] 5))
      clear hat han hb hL hbs etq
      go_wp2
      go_loopw [7,8] (fun ov iv' wq=>∃ k:Nat,k<=8/\iv'=.int .i64 (k:Int)/\OwnB wz.heap.size wq ov ((L.take k).flatMap be4)/\Below wz.heap.size wz wq) (fun _ iv' _=>8 - (intOf iv').toNat)
      case atStart=>exact ⟨0,by omega,rfl,by simpa using Ho.out,Hbr.out⟩
      case round =>
        clear Ho Hbr
        obtain ⟨k,hk,rfl,ho,hb⟩:=hrel
        have hsq:=hb.size
        have Ho:=hide ho
        have Hb:=hide hb
        by_cases hk8:k < 8
        · have hki:(k:Int) < 8:=by omega
          have cx:=(Han.out.below hb hghl).2 k (by omega)
          have Hsn:=hide (flat_snoc L k (by omega))
          have hTl:((L.take k).flatMap be4).length<=32:=by rw [flatB_len];simp;omega
          generalize L[k]'(by omega)=x at cx Hsn
          generalize hT:(L.take k).flatMap be4=T at Ho Hsn hTl
          have y0:IntKind.u8.wrap ((x:Int) / 16777216)=(((UInt8.ofNat (x / 16777216 % 256)).toNat:Nat):Int):=u8_at x 16777216
          have y1:IntKind.u8.wrap ((x:Int) / 65536)=(((UInt8.ofNat (x / 65536 % 256)).toNat:Nat):Int):=u8_at x 65536
          have y2:IntKind.u8.wrap ((x:Int) / 256)=(((UInt8.ofNat (x / 256 % 256)).toNat:Nat):Int):=u8_at x 256
          have y3:=u8_at1 x
          have Hx:=hide (show be4 x=[UInt8.ofNat (x / 16777216 % 256),UInt8.ofNat (x / 65536 % 256),UInt8.ofNat (x / 256 % 256),UInt8.ofNat (x % 256)] from rfl)
          generalize UInt8.ofNat (x / 16777216 % 256)=b0 at y0 Hx
          generalize UInt8.ofNat (x / 65536 % 256)=b1 at y1 Hx
          generalize UInt8.ofNat (x / 256 % 256)=b2 at y2 Hx
          generalize UInt8.ofNat (x % 256)=b3 at y3 Hx
          rw [Hx.out] at Hsn
          clear hT ho hb Hx
          go_wp2
          go_region_held_law (fun w'=>w'.cell? ⟨gh,k,none⟩=some (.int .i64 (x:Int))) (go_keep)
            ((refine step_app_own rfl _ _ rfl wz.heap.size u7 _ T [b0,b1,b2,b3] (by rfl) (by rfl) (Ho.out.alloc _).drew (rd_four wr _ _ _ _ b0 b1 b2 b3 _ rfl rfl rfl rfl rfl).drew (by simp) (by simp;omega) (by simp;omega) ?_;intro v3 w3 ho3 hb3;have hbB:Below wz.heap.size wr w3:=(((Below.refl _ wr).alloc hsq _).drew).trans hb3;have kx:=(hbB.cell (p:=⟨gh,k,none⟩) hghl).trans cx))
          go_wp2
          go_roundw
          case rel=>exact ⟨k+1,by omega,by go_num,by rw [Hsn.out];exact ho3,Hb.out.trans hbB⟩
          case measure=>simp [intOf];omega
        · have e8:k=8:=by omega
          rw [List.take_of_length_le (by omega)] at ho
          have hcv:=str_own _ _ _ ho.rd (own_some ho (by rw [flatB_len];omega))
          clear ho hb
          go_wp2
          go_ret
          exact ⟨by rw [Hbs.out];rfl,Hbq.out.trans (Hb.out.mono hsz)⟩
theorem app_text {ops:Array Oper} {rest:List Oper} {o:Oper} {a:Act} {Q:Exit->Act->World->Prop} (w:World) (hgd:o.guard=none) (s x:Operand)
    (ho:o.op=.call { callee:=.builtin .append,args:=#[s,x],argTypes:=#[22,9] })
    (base:Nat) (v:Value) (t:ByteArray) (l:List UInt8) (hs:a.eval s=v) (hx:a.eval x=.string t) (hown:OwnB base w v l)
    (hlen:l.length+t.size<=100000000) (hbase:base<=w.heap.size)
    (h:∀ v' w',OwnB base w' v' (l ++ t.data.toList)->Below base w w'->wpList Tryz.prog ops Q rest (a.put o.dst v') w'):wpList Tryz.prog ops Q (o :: rest) a w:=by
  obtain ⟨i0,hi,hz0,hz1,hz2⟩:=info_parts Tryz.infoU8
  refine Lib.wpList_append_own_string w hgd s x 22 9 ho base 5 i0 Tryz.underlying22 Tryz.underlying9 hi hz0 hz1 hz2 v l.length (l.map cb) hs hown t hx (by unfold maxLen;omega) (by omega) hbase ?_
  intro v' w' ho' hg _
  refine h v' w' ?_ ((Below.refl _ _).grown hg hbase (fun k hk=>(World.ownsRow.lt hown k hk).1))
  have e1:l.map cb ++ Lib.strCells t=(l ++ t.data.toList).map cb:=by
    rw [List.map_append];rfl
  have e2:l.length+t.size=(l ++ t.data.toList).length:=by simp
  rw [e1,e2] at ho'
  exact ho'
theorem own_lit1 (w:World) (c:UInt8):OwnB w.heap.size (w.alloc (.cells #[.int .u8 (c.toNat:Int)] 5)) (.slice (some ⟨w.heap.size,0,none⟩) 1 1) [c] :=
  World.ownsRow_lit w #[.int .u8 (c.toNat:Int)] 1 (Nat.le_refl _) (by unfold maxLen;omega) (by simp)
theorem specDig (v:Value) (l:List UInt8) (w:World) (hr:RdB w v l) (hl:l.length<=4000000) (D:ByteArray) (hD:(⟨(dig l).toArray⟩:ByteArray)=D) :
    Calls Tryz.prog 225 #[v] w fun e w'=>e=.returned (.string D)/\Below w.heap.size w w':=by
  subst hD
  exact specDigest_any v l w hr hl
theorem specLeaf_any (s:ByteArray) (w:World) (hs:s.size<=3000000) :
    Calls Tryz.prog 226 #[.string s] w fun e w'=>e=.returned (.string (leafB s))/\Below w.heap.size w w':=by
  have Ho:=hide (own_lit1 w 0)
  have Hb:=hide ((Below.refl w.heap.size w).alloc (Nat.le_refl _) (.cells #[.int .u8 0] 5))
  have hl:s.data.toList.length=s.size:=by simp
  go_enter Tryz.func226,Tryz.ntmps226
  go_wp2_with (at_builtin;refine app_text _ (by rfl) _ _ (by rfl) w.heap.size _ s [0] (by rfl) (by rfl) Ho.out (by simp;omega) (by simp) ?_;intro v2 w2 ho2 hb2)
  refine (specDig _ _ _ ho2.rd (by simp;omega) (leafB s) rfl).mono ?_
  rintro e w3 ⟨rfl,hb3⟩
  have hB2:=Hb.out.trans hb2
  have hB3:Below w.heap.size w w3:=hB2.trans (hb3.mono hB2.size)
  go_wp2
  go_ret
  exact ⟨rfl,hB3⟩
theorem specNode_any (a b:ByteArray) (w:World) (ha:a.size<=1500000) (hb:b.size<=1500000) :
    Calls Tryz.prog 228 #[.string a,.string b] w fun e w'=>e=.returned (.string (nodeB a b))/\Below w.heap.size w w':=by
  have Ho:=hide (own_lit1 w 1)
  have Hb:=hide ((Below.refl w.heap.size w).alloc (Nat.le_refl _) (.cells #[.int .u8 1] 5))
  have hla:a.data.toList.length=a.size:=by simp
  have hlb:b.data.toList.length=b.size:=by simp
  go_enter Tryz.func228,Tryz.ntmps228
  go_wp2_with (first
    | (at_builtin;refine app_text _ (by rfl) _ _ (by rfl) w.heap.size _ b ([1] ++ a.data.toList) (by rfl) (by rfl) ho2 (by simp;omega) hsz2 ?_;intro v3 w3 ho3 hb3)
    | (at_builtin;refine app_text _ (by rfl) _ _ (by rfl) w.heap.size _ a [1] (by rfl) (by rfl) Ho.out (by simp;omega) (by simp) ?_;intro v2 w2 ho2 hb2;have hsz2:=(Hb.out.trans hb2).size))
  refine (specDig _ _ _ ho3.rd (by simp;omega) (nodeB a b) rfl).mono ?_
  rintro e w4 ⟨rfl,hb4⟩
  have hB3:=(Hb.out.trans hb2).trans hb3
  have hB4:Below w.heap.size w w4:=hB3.trans (hb4.mono hB3.size)
  go_wp2
  go_ret
  exact ⟨rfl,hB4⟩
theorem l3Half_any (n:Nat) (w:World) (h2:2<=n) (hn:n<=1000000) :
    Calls Tryz.prog 227 #[.int .i64 (n:Int)] w fun e w'=>e=.returned (.int .i64 (half n:Int))/\w'=w:=by
  go_enter Tryz.func227,Tryz.ntmps227
  go_wp2
  go_loopw [3] (fun kv wr=>∃ e k:Nat,k=2 ^ e/\k < n/\kv=.int .i64 (k:Int)/\wr=w) (fun kv _=>n - (intOf kv).toNat)
  case atStart=>exact ⟨0,1,rfl,by omega,rfl,rfl⟩
  case round =>
    obtain ⟨e,k,hk,hkn,rfl,rfl⟩:=hrel
    have hk1:1<=k:=by rw [hk];exact Nat.two_pow_pos e
    by_cases hlt:2 * k < n
    · have hli:2 * (k:Int) < (n:Int):=by omega
      have Hk:=hide hk
      clear hk
      go_wp2
      go_roundw
      case rel=>exact ⟨e+1,2 * k,by rw [Nat.pow_succ,<- Hk.out];omega,hlt,by go_num,trivial⟩
      case measure=>simp [intOf];omega
    · have hli:¬ 2 * (k:Int) < (n:Int):=by omega
      have Hh:=hide (half_is n e (by omega) (by omega))
      have Hk:=hide hk
      clear hk
      go_wp2
      go_ret
      exact ⟨ret_int (by rw [Hh.out,<- Hk.out]),rfl⟩
def StrAt (w:World) (b off:Nat) (l:List ByteArray):Prop:=b < w.heap.size/\∀ i (h:i < l.length),w.cell? ⟨b,off+i,none⟩=some (.string l[i])
theorem StrAt.below {B:Nat} {w w':World} {b off:Nat} {l:List ByteArray} (h:StrAt w b off l) (hb:Below B w w') (hB:b < B):StrAt w' b off l :=
  ⟨by have:=hb.size;have:=h.1;omega,fun i hi=>(hb.cell (p:=⟨b,off+i,none⟩) hB).trans (h.2 i hi)⟩
theorem StrAt.drew {w:World} {b off:Nat} {l:List ByteArray} (h:StrAt w b off l):StrAt w.drew b off l:=h.below (Below.refl _ _).drew h.1
theorem StrAt.take {w:World} {b off:Nat} {l:List ByteArray} (h:StrAt w b off l) (k:Nat):StrAt w b off (l.take k) :=
  ⟨h.1,fun i hi=>by rw [h.2 i (by simp at hi;omega)];simp⟩
theorem StrAt.drop {w:World} {b off:Nat} {l:List ByteArray} (h:StrAt w b off l) (k:Nat):StrAt w b (off+k) (l.drop k) :=
  ⟨h.1,fun i hi=>by rw [Nat.add_assoc,h.2 (k+i) (by simp at hi;omega)];simp⟩
theorem StrAt.rd {w:World} {b off cap:Nat} {l:List ByteArray} (h:StrAt w b off l) (h1:l.length<=cap) (h2:cap<=maxLen):RdS w (.slice (some ⟨b,off,none⟩) l.length cap) l:=by
  by_cases hl:l=[]
  · subst hl;exact .inl ⟨_,_,rfl,rfl,fun h=>by cases h⟩
  · exact .inr ⟨b,off,cap,hl,rfl,h1,h2,h.1,h.2⟩
theorem specRoot_at:∀ (n:Nat) (l:List ByteArray) (v:Value) (w:World),l.length<=n->n<=1000000->RdS w v l->(∀ s ∈ l,s.size<=1500000) ->
    Calls Tryz.prog 198 #[v] w fun e w'=>e=.returned (.string (rootM l))/\Below w.heap.size w w':=by
  intro n
  induction n with
  | zero =>
    intro l v w hl hn hr hs
    have e:l=[]:=List.length_eq_zero_iff.1 (by omega)
    subst e
    obtain ⟨a,cap,rfl⟩:=hr.shape
    clear hr hs
    go_enter Tryz.func198,Tryz.ntmps198
    go_wp2_with fail
    refine (specDig _ [] _ (own_nil w w.heap.size (Nat.le_refl _)).rd (by simp) noneM rfl).mono ?_
    rintro e w2 ⟨rfl,hb2⟩
    go_wp2
    go_ret
    exact ⟨by rw [rootM_nil];rfl,((Below.refl w.heap.size w).alloc (Nat.le_refl _) _).trans (hb2.mono (by simp))⟩
  | succ n ih =>
    intro l v w hl hn hr hs
    by_cases h0:l.length<=n
    · exact ih l v w h0 (by omega) hr hs
    · by_cases h1:l.length=1
      · obtain ⟨s,rfl⟩:∃ s,l=[s]:=by
          match l,h1 with
          | [s],_=>exact ⟨s,rfl⟩
        rcases hr with ⟨_,_,_,e,_⟩ | ⟨b,off,cap,_,rfl,hc1,hc2,hb,hcell⟩
        · cases e
        · have hc:=hcell 0 (by simp)
          have hsz:=hs s (by simp)
          simp only [Nat.add_zero,List.getElem_cons_zero] at hc
          have Hr:=hide (rootM_one s)
          clear hcell hs ih
          go_enter Tryz.func198,Tryz.ntmps198
          go_wp2_with fail
          refine (specLeaf_any s _ (by omega)).mono ?_
          rintro e w2 ⟨rfl,hb2⟩
          go_wp2
          go_ret
          exact ⟨by rw [Hr.out];rfl,hb2⟩
      · have h2:2<=l.length:=by
          by_cases hz:l.length=0
          · omega
          · omega
        rcases hr with ⟨_,_,_,e,_⟩ | ⟨b,off,cap,_,rfl,hc1,hc2,hb,hcell⟩
        · subst e;simp at h2
        · have hst:StrAt w b off l:=⟨hb,hcell⟩
          have hh:=half_lt l.length h2
          have Hr:=hide (rootM_more l h2)
          obtain ⟨K,hK⟩:∃ K,half l.length=K:=⟨_,rfl⟩
          obtain ⟨m,hm⟩:∃ m,l.length=m:=⟨_,rfl⟩
          have Hhalf:=hide (l3Half_any l.length w h2 (by omega))
          rw [hK] at hh Hr Hhalf
          have ht:(l.take K).length=K:=by simp;omega
          have hd:(l.drop K).length=m - K:=by simp [hm]
          have Ha:=hide (fun w (h:StrAt w b off (l.take K))=>ih (l.take K) (.slice (some ⟨b,off,none⟩) K cap) w (by omega) (by omega) (by have:=h.rd (cap:=cap) (by omega) hc2;rwa [ht] at this) (fun s hsm=>hs s (List.mem_of_mem_take hsm)))
          have Hb:=hide (fun w (h:StrAt w b (off+K) (l.drop K))=>ih (l.drop K) (.slice (some ⟨b,off+K,none⟩) (m - K) (cap - K)) w (by omega) (by omega) (by have:=h.rd (cap:=cap - K) (by omega) (by omega);rwa [hd] at this) (fun s hsm=>hs s (List.mem_of_mem_drop hsm)))
          have q1:=rootM_size (l.take K)
          have q2:=rootM_size (l.drop K)
          generalize hA:rootM (l.take K)=RA at Hr Ha q1
          generalize hB:rootM (l.drop K)=RB at Hr Hb q2
          rw [hm] at hh hc1 Hhalf ⊢
          have i1:(K:Int)<=(cap:Int):=by omega
          have i2:(K:Int)<=(m:Int):=by omega
          have i3:K < cap:=by omega
          have i4:¬ cap=K:=by omega
          have i5:(m:Int)<=(cap:Int):=by omega
          have i6:((m:Int) == 0)=false:=by rw [beq_eq_false_iff_ne];omega
          have i7:((m:Int) == 1)=false:=by rw [beq_eq_false_iff_ne];omega
          have i8:K<=m:=by omega
          have i9:K<=cap:=by omega
          have i10:m<=cap:=by omega
          have Hst:=hide hst
          clear hcell hs ih hst hA hB hK hm ht hd h0 h1
          go_enter Tryz.func198,Tryz.ntmps198
          go_wp2_with fail
          refine Hhalf.out.mono ?_
          rintro e w ⟨rfl,rfl⟩
          go_wp2
          go_region_with (first
            | (go_at_call 198;refine (Hb.out _ ((Hst.out.drew.drop K).below hba hb)).mono ?_;rintro e wb ⟨rfl,hbb⟩)
            | (go_at_call 198;refine (Ha.out _ (Hst.out.drew.take K)).mono ?_;rintro e wa ⟨rfl,hba⟩)
            | (go_at_call 228;refine (specNode_any RA RB _ (by omega) (by omega)).mono ?_;rintro e wc ⟨rfl,hbc⟩))
          have s1:w.heap.size<=wa.heap.size:=hba.size
          have s2:=hbb.size
          have HB:Hid (Below w.heap.size w wc):=hide ((((Below.refl _ w).drew.trans hba).trans (hbb.mono s1)).trans (hbc.mono (Nat.le_trans s1 s2)))
          go_wp2
          go_ret
          exact ⟨by rw [Hr.out];rfl,HB.out⟩
theorem specRoot_any (l:List ByteArray) (v:Value) (w:World) (hl:l.length<=1000000) (hr:RdS w v l) (hs:∀ s ∈ l,s.size<=1500000) :
    Calls Tryz.prog 198 #[v] w fun e w'=>e=.returned (.string (rootM l))/\Below w.heap.size w w':=specRoot_at l.length l v w (Nat.le_refl _) hl hr hs
theorem specRootOf_any (l:List ByteArray) (v:Value) (w:World) (hl:l.length<=9000000000000000000) (hr:RdS w v l) (hs:∀ s ∈ l,s.size<=1500000) :
    Calls Tryz.prog 146 #[v] w fun e w'=>e=.returned (.string (if 64 < l.length then ByteArray.empty else rootM l))/\Below w.heap.size w w':=by
  have Hr:=hide hr
  obtain ⟨a,cap,rfl⟩:=hr.shape
  clear hr
  by_cases h:64 < l.length
  · rw [if_pos h]
    have hi:(64:Int) < (l.length:Int):=by omega
    clear hs
    go_enter Tryz.func146,Tryz.ntmps146
    go_wp2
    go_ret
    exact ⟨rfl,Below.refl _ _⟩
  · rw [if_neg h]
    have hi:(l.length:Int)<=64:=by omega
    have HS:=hide (specRoot_any l _ w (by omega) Hr.out hs)
    clear hs h
    go_enter Tryz.func146,Tryz.ntmps146
    go_wp2_with fail
    refine HS.out.mono ?_
    rintro e w1 ⟨rfl,hb1⟩
    go_wp2
    go_ret
    exact ⟨rfl,hb1⟩
end Go.Proofs.YtohachldbpejpaaGreatDoor
