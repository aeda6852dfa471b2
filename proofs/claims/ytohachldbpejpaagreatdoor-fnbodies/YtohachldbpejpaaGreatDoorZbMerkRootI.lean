/- The landed code's roots. -/
import Derived.Test.YtohachldbpejpaaGreatDoorZbShaBlock
import Derived.Test.YtohachldbpejpaaGreatDoorZbShaWd
import Derived.Laws.BytesString
import Derived.Test.YtohachldbpejpaaGreatDoorZbMerkRoot
import Derived.Lib.Strings
import Derived.Lib.Slices
import Derived.Lib.Small
import Derived.Lib.Walk
import Derived.Lib.BitFns
set_option maxRecDepth 100000
set_option maxHeartbeats 4000000
namespace Go.Proofs.YtohachldbpejpaaGreatDoor
open Go.RowKit
set_option linter.unusedVariables false
theorem own_none (base:Nat) (w:World):OwnB base w (.slice none 0 0) []:=⟨by simp,.inl ⟨rfl,rfl⟩⟩
theorem shaBytes_any (A B C D E F G H:Nat) (w:World) :
    Calls Tryz.prog 175 #[.agg #[.int .u32 (A:Int),.int .u32 (B:Int),.int .u32 (C:Int),.int .u32 (D:Int),.int .u32 (E:Int),.int .u32 (F:Int),.int .u32 (G:Int),.int .u32 (H:Int)]] w fun e w'=>e=.returned (.string ⟨(bytesS ⟨A,B,C,D,E,F,G,H⟩).toArray⟩)/\Below w.heap.size w w':=by
  obtain ⟨L,hL⟩:∃ L,S8.list ⟨A,B,C,D,E,F,G,H⟩=L:=⟨_,rfl⟩
  have hLl:L.length=8:=by rw [<- hL];rfl
  have HL:=hide hL
  have hix:∀ (k:Nat) (h:k < 8),∀ w,(Instr.index 256 (.agg #[.int .u32 (A:Int),.int .u32 (B:Int),.int .u32 (C:Int),.int .u32 (D:Int),.int .u32 (E:Int),.int .u32 (F:Int),.int .u32 (G:Int),.int .u32 (H:Int)]) (.int .i64 (k:Int))).run Tryz.prog w=.ok (.int .u32 ((L[k]'(by omega):Nat):Int)) w:=by
    intro k h w
    refine run_index_array _ w _ _ _ _ _ k h Tryz.underlying256 (fun _=>by simp [go_sem]) (fun _=>by simp [go_sem]) _ ?_
    subst hL
    match k,h with
    | 0,_ | 1,_ | 2,_ | 3,_ | 4,_ | 5,_ | 6,_ | 7,_=>rfl
  have Hix:=hide hix
  have hbs:bytesS ⟨A,B,C,D,E,F,G,H⟩=L.flatMap be4:=by unfold bytesS;rw [hL]
  rw [hbs]
  clear hL hix hbs
  have hb0:Below w.heap.size w (w.alloc (.cells #[.int .u32 (A:Int),.int .u32 (B:Int),.int .u32 (C:Int),.int .u32 (D:Int),.int .u32 (E:Int),.int .u32 (F:Int),.int .u32 (G:Int),.int .u32 (H:Int)] 256)):=(Below.refl _ _).alloc (Nat.le_refl _) _
  have Hb0:=hide hb0
  clear hb0
  go_enter Tryz.func175,Tryz.ntmps175
  go_wp2
  go_loopw [3,7] (fun ov iv wr=>∃ k:Nat,k<=8/\iv=.int .i64 (k:Int)/\OwnB w.heap.size wr ov ((L.take k).flatMap be4)/\Below w.heap.size w wr) (fun _ iv _=>8 - (intOf iv).toNat)
  case atStart=>exact ⟨0,by omega,rfl,by simpa using own_none _ _,Hb0.out⟩
  case round =>
    obtain ⟨k,hk,rfl,ho,hb⟩:=hrel
    have hs2:=hb.size
    have Ho:=hide ho
    have Hb:=hide hb
    clear ho hb
    by_cases hk8:k < 8
    · have hki:(k:Int) < 8:=by omega
      have hx:=Hix.out k hk8
      have Hsn:=hide (flat_snoc L k (by omega))
      have hTl:((L.take k).flatMap be4).length<=32:=by rw [flatB_len];simp;omega
      generalize L[k]'(by omega)=x at hx Hsn
      generalize hT:(L.take k).flatMap be4=T at Ho Hsn hTl
      have HT:=hide hT
      clear hT
      go_wp2_with (at_builtin;refine app_own _ rfl _ _ rfl w.heap.size _ _ T (be4 x) rfl rfl (Ho.out.alloc _) (rd_four _ _ _ _ _ _ _ _ _ _ (byte_at x 16777216) (byte_at x 65536) (byte_at x 256) (byte_at1 x) (by simp)) (by simp [be4];omega) (by simp;omega) ?_;intro v3 w3 ho3 hb3)
      go_roundw
      case rel=>exact ⟨k+1,by omega,by go_num,by rw [Hsn.out];exact ho3,(Hb.out.alloc hs2 _).trans hb3⟩
      case measure=>simp [intOf];omega
    · have e8:k=8:=by omega
      have ho:=Ho.out
      rw [List.take_of_length_le (by omega)] at ho
      have hcv:=str_own _ _ _ ho.rd (own_some ho (by rw [flatB_len];omega))
      have Hb2:=Hb
      clear ho
      go_wp2
      go_ret
      exact ⟨rfl,Hb2.out⟩
theorem dig_step {w wr wa wb:World} {P:List UInt8} {L:List Nat} {Tn:S8} {g:Nat} (ha:Ar wr w.heap.size L) (hL:L.length=8) (hab:Ab wr g P) (hs:w.heap.size < wr.heap.size) (hb:Below w.heap.size w wr) (hba:Below wr.drew.heap.size wr.drew wa) (hbb:Below wa.heap.size wa wb) (hg:w.heap.size+1<=g) :
    Ar (wb.setCells w.heap.size 0 (Tn.vals .u32).toList) w.heap.size Tn.list/\Ab (wb.setCells w.heap.size 0 (Tn.vals .u32).toList) g P/\w.heap.size < (wb.setCells w.heap.size 0 (Tn.vals .u32).toList).heap.size/\Below w.heap.size w (wb.setCells w.heap.size 0 (Tn.vals .u32).toList):=by
  have hdr:Below wr.heap.size wr wr.drew:=(Below.refl _ _).drew
  have e0:wr.drew.heap.size=wr.heap.size:=rfl
  have s1:=hba.size
  have s2:=hbb.size
  have s3:=(below_setCells (Below.refl 0 wb) w.heap.size (Nat.zero_le _) (Tn.vals .u32).toList 0).size
  refine ⟨?_,(((hab.below hdr (Nat.le_refl _)).below hba (Nat.le_refl _)).below hbb (Nat.le_refl _)).setsOther _ _ _ (by omega),by omega,below_setCells ((hb.drew.trans (hba.mono (by omega))).trans (hbb.mono (by omega))) _ (Nat.le_refl _) _ _⟩
  rw [vals_uv]
  exact (((ha.below hdr hs).below hba (by omega)).below hbb (by omega)).sets _ (by rw [hL];rfl)
theorem implDigest_any (v:Value) (l:List UInt8) (w:World) (hr:RdB w v l) (hl:l.length<=4000000) (hgl:Gl w) :
    Calls Tryz.prog 118 #[v] w fun e w'=>e=.returned (.string ⟨(bytesS (shaFold (padB l) (padQ l.length))).toArray⟩)/\Below w.heap.size w w':=by
  have c0:=hgl.start 0 (uv hC.a) rfl
  have c1:=hgl.start 1 (uv hC.b) rfl
  have c2:=hgl.start 2 (uv hC.c) rfl
  have c3:=hgl.start 3 (uv hC.d) rfl
  have c4:=hgl.start 4 (uv hC.e) rfl
  have c5:=hgl.start 5 (uv hC.f) rfl
  have c6:=hgl.start 6 (uv hC.g) rfl
  have c7:=hgl.start 7 (uv hC.h) rfl
  simp only [Nat.zero_add,uv] at c0 c1 c2 c3 c4 c5 c6 c7
  generalize hHC:hC=HC at c0 c1 c2 c3 c4 c5 c6 c7
  have HHC:=hide hHC
  clear hHC
  obtain ⟨A,B,C,D,E,F,G,H⟩:=HC
  obtain ⟨av,cv,hv⟩:=hr.shape
  have Hr:=hide hr
  have Hgl:=hide hgl
  clear hr hgl
  rw [hv] at Hr ⊢
  clear hv
  obtain ⟨P,hP⟩:∃ P,padB l=P:=⟨_,rfl⟩
  obtain ⟨Q,hQ⟩:∃ Q,padQ l.length=Q:=⟨_,rfl⟩
  have hPQ:P.length=64 * Q:=by rw [<- hP,<- hQ];exact padB_q l
  have hQ1:1<=Q:=by rw [<- hQ];unfold padQ;omega
  have hQ2:Q<=70000:=by rw [<- hQ];unfold padQ;omega
  rw [hP,hQ]
  have HP:=hide hP
  have HPQ:=hide hPQ
  clear hP hQ hPQ
  go_enter Tryz.func118,Tryz.ntmps118
  go_wp2_with fail
  refine (implPadded_any _ l _ (Hr.out.below ((Below.refl w.heap.size w).alloc (Nat.le_refl _) _) (Nat.le_refl _)) hl).mono ?_
  rintro e w2 ⟨pv,rfl,ho,hb2⟩
  rw [HP.out] at ho
  have hPQ:=HPQ.out
  have hs2:=hb2.size
  simp only [World.size_alloc] at hs2
  obtain ⟨g,cap,hpv,hcap,hcm⟩:=ho.shape (by intro e;rw [e] at hPQ;simp at hPQ;omega)
  have hab:Ab w2 g P/\w.heap.size+1<=g/\cap<=maxLen:=ho.ab (by simpa using hpv) (by simp) (by omega)
  rw [hpv]
  have Ha:Hid (Ar w2 w.heap.size (shaFold P 0).list):=hide ((Ar.new w _ _ _ _ (by show _=(hC.list.map uv).toArray;rw [HHC.out];rfl) rfl).below hb2 (by simp))
  have Hab:=hide hab.1
  have Hg:=hide hab.2.1
  have Hcm:=hide hab.2.2
  have Hb:Hid (Below w.heap.size w w2):=hide (((Below.refl w.heap.size w).alloc (Nat.le_refl _) _).trans (hb2.mono (by simp)))
  have Hs:=hide (show w.heap.size < w2.heap.size by omega)
  have Hgl2:=hide (Hgl.out.below Hb.out (Nat.le_refl _))
  have hcap':64 * Q<=cap:=by omega
  rw [hPQ]
  clear hPQ hab ho hb2 hs2 hpv c0 c1 c2 c3 c4 c5 c6 c7 hcap Hr
  go_wp2
  go_loopw [5] (fun iv wr=>∃ t at':Nat,at'=64 * t/\t<=Q/\iv=.int .i64 (at':Int)/\Ar wr w.heap.size (shaFold P t).list/\Ab wr g P/\w.heap.size < wr.heap.size/\Below w.heap.size w wr) (fun iv _=>64 * Q - (intOf iv).toNat)
  case atStart=>exact ⟨0,0,by omega,by omega,rfl,Ha.out,Hab.out,Hs.out,Hb.out⟩
  case round =>
    clear Ha Hab Hb Hs Hgl2
    obtain ⟨t,at',hat,ht,rfl,ha,hab,hs,hb⟩:=hrel
    have Hgl2:=hide (Hgl.out.below hb (Nat.le_refl _))
    by_cases hlt:t < Q
    · have hi1:(at':Int) < ((64 * Q:Nat):Int):=by omega
      obtain ⟨en,hen⟩:∃ en,at'+64=en:=⟨_,rfl⟩
      have hi2:IntKind.i64.wrap ((at':Int)+64)=(en:Int):=by rw [IntKind.wrap_i64];omega
      have hi3:(at':Int)<=(en:Int):=by omega
      have hi4:(en:Int)<=(cap:Int):=by omega
      have hi5:at' < cap:=by omega
      have hi6:en<=cap:=by omega
      have hi7:en - at'=64:=by omega
      have hi8:at'<=en:=by omega
      have hi9:¬ cap=at':=by omega
      have hfl:=shaFold_lt P t
      have Hfn:=hide (show shaFold P (t+1)=blockS (shaFold P t) (wordsB (blk P t)) from rfl)
      have hPQ:=HPQ.out
      have Hbl:=hide (blk_len P t (by omega))
      have Hcell:Hid (∀ i (h:i < (blk P t).length),wr.cell? ⟨g,at'+i,none⟩=some (.int .u8 ((blk P t)[i].toNat:Int))):=hide (by intro i h;rw [blk_at P t i (by omega) h,hat];exact hab.2 (64 * t+i) (by have:=Hbl.out;omega))
      generalize hT:shaFold P t=T at ha hfl Hfn
      generalize hB:blk P t=Bk at Hfn Hbl Hcell
      clear hT hB
      obtain ⟨a,b,c,d,e,f,g',h⟩:=T
      obtain ⟨d0,d1,d2,d3,d4,d5,d6,d7⟩:=ha.eight
      have Ha:=hide ha
      have Hab:=hide hab
      have Hs:=hide hs
      have Hb:=hide hb
      have Hat:=hide hat
      clear ha hab hs hb hat hPQ
      generalize hTn:blockS ⟨a,b,c,d,e,f,g',h⟩ (wordsB Bk)=Tn at Hfn
      have HTn:=hide hTn
      clear hTn
      go_wp2
      have Hcall:=hide (shaWords_any g at' (cap - at') Bk wr.drew Hbl.out (by omega) (by have:=Hcm.out;omega) Hab.out.1 (fun i h=>((Sm.refl wr).drew.cell _).trans (Hcell.out i h)))
      go_region_with (first
        | (go_at_call 174;refine Hcall.out.mono ?_;rintro e wa ⟨rfl,hba⟩;have Haa:=hide ((Ha.out.sm (Sm.refl wr).drew).below hba Hs.out);obtain ⟨f0,f1,f2,f3,f4,f5,f6,f7⟩:=Haa.out.eight;have Hgla:=hide ((Hgl2.out.below ((Below.refl wr.heap.size wr).drew) (Nat.le_refl _)).below hba (Nat.le_refl _)))
        | (go_at_call 173;refine (shaBlock_any a b c d e f g' h hfl (wordsB Bk) (wordsB_len _) (wordsB_lt _) _ Hgla.out).mono ?_;rintro e wb ⟨rfl,hbb⟩;rw [HTn.out];have hstore:=store_eight wb w.heap.size Tn (show wb.there w.heap.size 0 8 from (Haa.out.below hbb (Nat.lt_of_lt_of_le Hs.out hba.size)).there)))
      all_goals
        go_wp2
        go_roundw
        case rel=>exact ⟨t+1,en,by have:=Hat.out;omega,by omega,congrArg (Value.int .i64) (by omega),by rw [Hfn.out];exact dig_step Ha.out rfl Hab.out Hs.out Hb.out hba hbb Hg.out⟩
        case measure=>simp [intOf];have:=Hat.out;omega
    · have etq:t=Q:=by omega
      rw [etq] at ha hat
      generalize hT:shaFold P Q=T at ha
      have HT:=hide hT
      clear hT etq
      obtain ⟨a,b,c,d,e,f,g',h⟩:=T
      obtain ⟨d0,d1,d2,d3,d4,d5,d6,d7⟩:=ha.eight
      have Hb:=hide hb
      have Hs:=hide hs
      have hge:((64 * Q:Nat):Int)<=(at':Int):=by omega
      have hlq:decide ((at':Int) < 64 * (Q:Int))=false:=by rw [decide_eq_false_iff_not];omega
      clear hab hb hs ha hat
      go_wp2_with fail
      refine (shaBytes_any a b c d e f g' h _).mono ?_
      rintro e wb ⟨rfl,hbb⟩
      go_wp2
      go_ret
      exact ⟨by rw [HT.out];rfl,Hb.out.trans (hbb.mono (Nat.le_of_lt Hs.out))⟩
structure OwnM (base:Nat) (w:World) (g cap:Nat) (l:List UInt8):Prop where
  ge:base<=g
  lt:g < w.heap.size
  le:l.length<=cap
  mx:cap<=maxLen
  cells:∀ i (h:i < l.length),w.cell? ⟨g,i,none⟩=some (.int .u8 (l[i].toNat:Int))
  room:∀ i,i < cap->(w.cell? ⟨g,i,none⟩).isSome=true/\w.frozen? ⟨g,i,none⟩=false
theorem OwnM.rd {base:Nat} {w:World} {g cap:Nat} {l:List UInt8} (h:OwnM base w g cap l):RdB w (.slice (some ⟨g,0,none⟩) l.length cap) l:=by
  by_cases hl:l=[]
  · subst hl;exact .inl ⟨_,_,rfl,rfl,fun h=>by cases h⟩
  · exact .inr ⟨g,0,cap,hl,rfl,h.le,h.mx,h.lt,fun i hi=>by rw [Nat.zero_add];exact h.cells i hi⟩
theorem conv_own (w:World) (s:ByteArray) (hs:s.size<=9000000):∃ cap w',(convert 9 22 (.string s)).run Tryz.prog w=.ok (.slice (some ⟨w.heap.size,0,none⟩) s.size cap) w'/\OwnM w.heap.size w' w.heap.size cap s.data.toList/\Below w.heap.size w w':=by
  have hr:=run_bytes_of_string (P:=Tryz.prog) w 9 22 5 s Tryz.underlying9 Tryz.underlying22 Tryz.underlying5
  have hge:=grownCap_ge w s.size 0 5
  have hmx:=grownCap_le_maxLen w s.size 0 5 (by unfold maxLen;omega)
  generalize grownCap w s.size 0 5=cap at hr hge hmx
  have hsz:(bytesRow s cap).size=cap:=by
    simp only [bytesRow,Array.size_append,Array.size_map,Array.size_replicate]
    have:s.data.size=s.size:=rfl
    omega
  refine ⟨cap,_,hr,⟨Nat.le_refl _,by simp,by simpa using hge,hmx,?_,?_⟩,(Below.refl _ _).drew.alloc (Nat.le_refl _) _⟩
  · intro i hi
    rw [show (w.drew.alloc (.cells (bytesRow s cap) 5 ((bytesRow s cap).size,(bytesRow s cap).size+1))).cell? ⟨w.heap.size,i,none⟩=(bytesRow s cap)[i]? from cell_of_row _ w.heap.size i _ _ _ (heap_alloc_new w.drew _)]
    rw [bytesRow_at s cap i (by simpa using hi)]
    rfl
  · intro i hi
    constructor
    · rw [show (w.drew.alloc (.cells (bytesRow s cap) 5 ((bytesRow s cap).size,(bytesRow s cap).size+1))).cell? ⟨w.heap.size,i,none⟩=(bytesRow s cap)[i]? from cell_of_row _ w.heap.size i _ _ _ (heap_alloc_new w.drew _)]
      rw [Array.getElem?_eq_getElem (by rw [hsz];exact hi)]
      rfl
    · have:=World.frozen?_alloc_mark w.drew (bytesRow s cap) 5 (bytesRow s cap).size ((bytesRow s cap).size+1) i
      rw [show w.drew.heap.size=w.heap.size from rfl] at this
      rw [this,hsz]
      simp
      omega
theorem implDig (v:Value) (l:List UInt8) (w:World) (hr:RdB w v l) (hl:l.length<=4000000) (hgl:Gl w) (D:ByteArray) (hD:(⟨(dig l).toArray⟩:ByteArray)=D) :
    Calls Tryz.prog 118 #[v] w fun e w'=>e=.returned (.string D)/\Below w.heap.size w w':=by
  subst hD
  exact implDigest_any v l w hr hl hgl
theorem cat_size (a b:ByteArray):(a ++ b).size=a.size+b.size:=by simp
theorem cat_list (a b:ByteArray):(a ++ b).data.toList=a.data.toList ++ b.data.toList:=by simp
theorem implLeaf_any (s:ByteArray) (w:World) (hs:s.size<=3000000) (hgl:Gl w) :
    Calls Tryz.prog 119 #[.string s] w fun e w'=>e=.returned (.string (leafB s))/\Below w.heap.size w w':=by
  have hz:(({ data:=#[0] }:ByteArray) ++ s).size=1+s.size:=cat_size _ _
  have hl:(({ data:=#[0] }:ByteArray) ++ s).data.toList=0 :: s.data.toList:=cat_list _ _
  obtain ⟨cap,w4,hcv,hM,hb4⟩:=conv_own w (({ data:=#[0] }:ByteArray) ++ s) (by omega)
  have hll:(({ data:=#[0] }:ByteArray) ++ s).data.toList.length=1+s.size:=by rw [hl];simp;omega
  have Hr:=hide hM.rd
  rw [hll] at Hr
  rw [hl] at Hr
  rw [hz] at hcv
  have Hgl:=hide (hgl.below hb4 (Nat.le_refl _))
  have Hb4:=hide hb4
  have hln:(0 :: s.data.toList).length=1+s.size:=by simp;omega
  clear hgl hM hb4 hz hl hll
  go_enter Tryz.func119,Tryz.ntmps119
  go_wp2_with fail
  refine (implDig _ _ _ Hr.out (by omega) Hgl.out (leafB s) rfl).mono ?_
  rintro e w3 ⟨rfl,hb3⟩
  have hB3:Below w.heap.size w w3:=Hb4.out.trans (hb3.mono Hb4.out.size)
  go_wp2
  go_ret
  exact ⟨rfl,hB3⟩
theorem implNode_any (a b:ByteArray) (w:World) (ha:a.size<=1500000) (hb:b.size<=1500000) (hgl:Gl w) :
    Calls Tryz.prog 121 #[.string a,.string b] w fun e w'=>e=.returned (.string (nodeB a b))/\Below w.heap.size w w':=by
  have hz:(({ data:=#[1] }:ByteArray) ++ a ++ b).size=1+a.size+b.size:=by rw [cat_size,cat_size];rfl
  have hl:(({ data:=#[1] }:ByteArray) ++ a ++ b).data.toList=1 :: a.data.toList ++ b.data.toList:=by rw [cat_list,cat_list];rfl
  obtain ⟨cap,w4,hcv,hM,hb4⟩:=conv_own w (({ data:=#[1] }:ByteArray) ++ a ++ b) (by omega)
  have hln:(1 :: a.data.toList ++ b.data.toList).length=1+a.size+b.size:=by simp;omega
  have hll:(({ data:=#[1] }:ByteArray) ++ a ++ b).data.toList.length=1+a.size+b.size:=by rw [hl];exact hln
  have Hr:=hide hM.rd
  rw [hll] at Hr
  rw [hl] at Hr
  rw [hz] at hcv
  have Hgl:=hide (hgl.below hb4 (Nat.le_refl _))
  have Hb4:=hide hb4
  clear hgl hM hb4 hz hl hll
  go_enter Tryz.func121,Tryz.ntmps121
  go_wp2_with fail
  refine (implDig _ _ _ Hr.out (by omega) Hgl.out (nodeB a b) rfl).mono ?_
  rintro e w3 ⟨rfl,hb3⟩
  have hB3:Below w.heap.size w w3:=Hb4.out.trans (hb3.mono Hb4.out.size)
  go_wp2
  go_ret
  exact ⟨rfl,hB3⟩
theorem bitsLen64_int (x:Int) (w:World) (h0:0<=x) (hx:x<=255) :
    Calls Tryz.prog 212 #[.int .u64 x] w fun e w'=>e=.returned (.int .i64 (Lib.bitLen x.toNat:Int))/\w'=w:=by
  have h1:x < 4294967296:=by omega
  have h2:x < 65536:=by omega
  have h3:x < 256:=by omega
  go_enter Tryz.func212,Tryz.ntmps212
  go_wp2
  all_goals (go_ret;refine ⟨congrArg Ending.returned (congrArg (Value.int IntKind.i64) ?_),rfl⟩)
  all_goals (
    have l:=Lib.bitLen_le8' x h0 (by omega)
    rw [Lib.len8_of x h0 (by omega)]
    unfold wrap64
    omega)
theorem bitsLen_any (x:Nat) (w:World) (hx:x<=255) :
    Calls Tryz.prog 176 #[.int .u64 (x:Int)] w fun e w'=>e=.returned (.int .i64 (Lib.bitLen x:Int))/\w'=w:=by
  have H:=hide (bitsLen64_int (x:Int) w (by omega) (by omega))
  rw [Int.toNat_natCast] at H
  go_enter Tryz.func176,Tryz.ntmps176
  go_wp2_with fail
  refine H.out.mono ?_
  rintro e w ⟨rfl,rfl⟩
  go_wp2
  go_ret
  exact ⟨rfl,rfl⟩
theorem half_bits:∀ n:Fin 65,2<=n.val->1<=Lib.bitLen (n.val - 1)/\Lib.bitLen (n.val - 1)<=6/\2 ^ (Lib.bitLen (n.val - 1) - 1)=half n.val:=by decide +kernel
theorem firstPart_any (n:Nat) (w:World) (h2:2<=n) (hn:n<=64) :
    Calls Tryz.prog 120 #[.int .i64 (n:Int)] w fun e w'=>e=.returned (.int .i64 (half n:Int))/\w'=w:=by
  obtain ⟨k1,k2,k3⟩:=half_bits ⟨n,by omega⟩ h2
  have H:=hide (bitsLen_any (n - 1) w (by omega))
  dsimp only at k1 k2 k3
  generalize Lib.bitLen (n - 1)=K at H k1 k2 k3
  obtain ⟨m,rfl⟩:∃ m,n=m+1:=⟨n - 1,by omega⟩
  rw [show m+1 - 1=m from by omega] at H
  rw [<- k3]
  clear k3
  have hm1:((m+1:Nat):Int)=(m:Int)+1:=by omega
  rw [hm1]
  have i1:(1:Int)<=(m:Int):=by omega
  have i2:(m:Int)<=63:=by omega
  rcases (show K=1\/K=2\/K=3\/K=4\/K=5\/K=6 from by omega) with rfl | rfl | rfl | rfl | rfl | rfl
  all_goals (
    go_enter Tryz.func120,Tryz.ntmps120
    go_wp2_with fail
    refine H.out.mono ?_
    rintro e w ⟨rfl,rfl⟩
    go_wp2
    go_ret
    exact ⟨rfl,rfl⟩)
theorem Gl.drew' {w:World} (h:Gl w):Gl w.drew:=h.below (Below.refl _ _).drew (Nat.le_refl _)
theorem implRoot_at:∀ (n:Nat) (l:List ByteArray) (v:Value) (w:World),l.length<=n->n<=64->RdS w v l->(∀ s ∈ l,s.size<=1500000)->Gl w ->
    Calls Tryz.prog 56 #[v] w fun e w'=>e=.returned (.string (rootM l))/\Below w.heap.size w w':=by
  intro n
  induction n with
  | zero =>
    intro l v w hl hn hr hs hgl
    have e:l=[]:=List.length_eq_zero_iff.1 (by omega)
    subst e
    obtain ⟨a,cap,rfl⟩:=hr.shape
    have Hgl:=hide hgl
    clear hr hs hgl
    go_enter Tryz.func56,Tryz.ntmps56
    go_wp2_with fail
    refine (implDig _ [] _ (.inl ⟨none,0,rfl,rfl,fun _=>rfl⟩) (by simp) Hgl.out noneM rfl).mono ?_
    rintro e w2 ⟨rfl,hb2⟩
    go_wp2
    go_ret
    exact ⟨by rw [rootM_nil];rfl,hb2⟩
  | succ n ih =>
    intro l v w hl hn hr hs hgl
    by_cases h0:l.length<=n
    · exact ih l v w h0 (by omega) hr hs hgl
    · by_cases h1:l.length=1
      · obtain ⟨s,rfl⟩:∃ s,l=[s]:=by
          match l,h1 with
          | [s],_=>exact ⟨s,rfl⟩
        rcases hr with ⟨_,_,_,e,_⟩ | ⟨b,off,cap,_,rfl,hc1,hc2,hb,hcell⟩
        · cases e
        · have hc:=hcell 0 (by simp)
          have hsz:=hs s (by simp)
          simp only [Nat.add_zero,List.getElem_cons_zero] at hc
          have Hr:=hide (rootM_one s)
          have Hgl:=hide hgl
          clear hcell hs ih hgl
          go_enter Tryz.func56,Tryz.ntmps56
          go_wp2_with fail
          refine (implLeaf_any s _ (by omega) Hgl.out).mono ?_
          rintro e w2 ⟨rfl,hb2⟩
          go_wp2
          go_ret
          exact ⟨by rw [Hr.out];rfl,hb2⟩
      · have h2:2<=l.length:=by
          by_cases hz:l.length=0
          · omega
          · omega
        rcases hr with ⟨_,_,_,e,_⟩ | ⟨b,off,cap,_,rfl,hc1,hc2,hb,hcell⟩
        · subst e;simp at h2
        · have hst:StrAt w b off l:=⟨hb,hcell⟩
          have hh:=half_lt l.length h2
          have Hr:=hide (rootM_more l h2)
          obtain ⟨K,hK⟩:∃ K,half l.length=K:=⟨_,rfl⟩
          obtain ⟨m,hm⟩:∃ m,l.length=m:=⟨_,rfl⟩
          have Hhalf:=hide (firstPart_any l.length w h2 (by omega))
          rw [hK] at hh Hr Hhalf
          have ht:(l.take K).length=K:=by simp;omega
          have hd:(l.drop K).length=m - K:=by simp [hm]
          have Ha:=hide (fun w (h:StrAt w b off (l.take K)) hg=>ih (l.take K) (.slice (some ⟨b,off,none⟩) K cap) w (by omega) (by omega) (by have:=h.rd (cap:=cap) (by omega) hc2;rwa [ht] at this) (fun s hsm=>hs s (List.mem_of_mem_take hsm)) hg)
          have Hb:=hide (fun w (h:StrAt w b (off+K) (l.drop K)) hg=>ih (l.drop K) (.slice (some ⟨b,off+K,none⟩) (m - K) (cap - K)) w (by omega) (by omega) (by have:=h.rd (cap:=cap - K) (by omega) (by omega);rwa [hd] at this) (fun s hsm=>hs s (List.mem_of_mem_drop hsm)) hg)
          have q1:=rootM_size (l.take K)
          have q2:=rootM_size (l.drop K)
          generalize hA:rootM (l.take K)=RA at Hr Ha q1
          generalize hB:rootM (l.drop K)=RB at Hr Hb q2
          rw [hm] at hh hc1 Hhalf ⊢
          have i1:(K:Int)<=(cap:Int):=by omega
          have i2:(K:Int)<=(m:Int):=by omega
          have i3:K < cap:=by omega
          have i4:¬ cap=K:=by omega
          have i5:(m:Int)<=(cap:Int):=by omega
          have i6:((m:Int) == 0)=false:=by rw [beq_eq_false_iff_ne];omega
          have i7:((m:Int) == 1)=false:=by rw [beq_eq_false_iff_ne];omega
          have i8:K<=m:=by omega
          have i9:K<=cap:=by omega
          have i10:m<=cap:=by omega
          have i11:(m:Int)<=64:=by omega
          have Hst:=hide hst
          have Hgl:=hide hgl.drew'
          clear hcell hs ih hst hA hB hK hm ht hd h0 h1 hgl
          go_enter Tryz.func56,Tryz.ntmps56
          go_wp2_with fail
          refine Hhalf.out.mono ?_
          rintro e w ⟨rfl,rfl⟩
          go_wp2
          go_region_with (first
            | (go_at_call 56;refine (Hb.out _ ((Hst.out.drew.drop K).below hba hb) hga).mono ?_;rintro e wb ⟨rfl,hbb⟩;have hgb:=hga.below hbb (Nat.le_refl _))
            | (go_at_call 56;refine (Ha.out _ (Hst.out.drew.take K) Hgl.out).mono ?_;rintro e wa ⟨rfl,hba⟩;have hga:=Hgl.out.below hba (Nat.le_refl _))
            | (go_at_call 121;refine (implNode_any RA RB _ (by omega) (by omega) hgb).mono ?_;rintro e wc ⟨rfl,hbc⟩))
          have s1:w.heap.size<=wa.heap.size:=hba.size
          have s2:=hbb.size
          have HB:Hid (Below w.heap.size w wc):=hide ((((Below.refl _ w).drew.trans hba).trans (hbb.mono s1)).trans (hbc.mono (Nat.le_trans s1 s2)))
          go_wp2
          go_ret
          exact ⟨by rw [Hr.out];rfl,HB.out⟩
theorem implRoot_any (l:List ByteArray) (v:Value) (w:World) (hl:l.length<=64) (hr:RdS w v l) (hs:∀ s ∈ l,s.size<=1500000) (hgl:Gl w) :
    Calls Tryz.prog 56 #[v] w fun e w'=>e=.returned (.string (rootM l))/\Below w.heap.size w w':=implRoot_at l.length l v w (Nat.le_refl _) hl hr hs hgl
theorem implRootOf_any (l:List ByteArray) (v:Value) (w:World) (hl:l.length<=9000000000000000000) (hr:RdS w v l) (hs:∀ s ∈ l,s.size<=1500000) (hgl:Gl w) :
    Calls Tryz.prog 56 #[v] w fun e w'=>e=.returned (.string (if 64 < l.length then ByteArray.empty else rootM l))/\Below w.heap.size w w':=by
  by_cases h:64 < l.length
  · rw [if_pos h]
    obtain ⟨a,cap,rfl⟩:=hr.shape
    have hi:(64:Int) < (l.length:Int):=by omega
    clear hs hr hgl
    go_enter Tryz.func56,Tryz.ntmps56
    go_wp2
    go_ret
    exact ⟨rfl,Below.refl _ _⟩
  · rw [if_neg h]
    exact implRoot_any l v w (by omega) hr hs hgl
end Go.Proofs.YtohachldbpejpaaGreatDoor
