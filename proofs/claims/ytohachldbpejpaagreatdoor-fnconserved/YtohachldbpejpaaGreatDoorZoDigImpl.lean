/- The landed code's Digest. -/
import Derived.Test.YtohachldbpejpaaGreatDoorZoStrOwn
import Derived.Test.YtohachldbpejpaaGreatDoorZoShaBlock
import Derived.Test.YtohachldbpejpaaGreatDoorZoShaWd
set_option maxRecDepth 20000
set_option maxHeartbeats 1000000
namespace Go.Proofs.YtohachldbpejpaaGreatDoor
open Go.RowKit
set_option linter.unusedVariables false
theorem own_none (base:Nat) (w:World):OwnB base w (.slice none 0 0) []:=⟨by simp,.inl ⟨rfl,rfl⟩⟩
theorem shaBytes_any (A B C D E F G H:Nat) (w:World) :
    Calls Tryz.prog 175 #[.agg #[.int .u32 (A:Int),.int .u32 (B:Int),.int .u32 (C:Int),.int .u32 (D:Int),.int .u32 (E:Int),.int .u32 (F:Int),.int .u32 (G:Int),.int .u32 (H:Int)]] w fun e w'=>e=.returned (.string ⟨(bytesS ⟨A,B,C,D,E,F,G,H⟩).toArray⟩)/\Below w.heap.size w w':=by
  obtain ⟨L,hL⟩:∃ L,S8.list ⟨A,B,C,D,E,F,G,H⟩=L:=⟨_,rfl⟩
  have hLl:L.length=8:=by rw [<- hL];rfl
  have HL:=hide hL
  have hix:∀ (k:Nat) (h:k < 8),∀ w,(Instr.index 256 (.agg #[.int .u32 (A:Int),.int .u32 (B:Int),.int .u32 (C:Int),.int .u32 (D:Int),.int .u32 (E:Int),.int .u32 (F:Int),.int .u32 (G:Int),.int .u32 (H:Int)]) (.int .i64 (k:Int))).run Tryz.prog w=.ok (.int .u32 ((L[k]'(by omega):Nat):Int)) w:=by
    intro k h w
    refine run_index_array _ w _ _ _ _ _ k h Tryz.underlying256 (fun _=>by simp [go_sem]) (fun _=>by simp [go_sem]) _ ?_
    subst hL
    match k,h with
    | 0,_ | 1,_ | 2,_ | 3,_ | 4,_ | 5,_ | 6,_ | 7,_=>rfl
  have Hix:=hide hix
  have hbs:bytesS ⟨A,B,C,D,E,F,G,H⟩=L.flatMap be4:=by unfold bytesS;rw [hL]
  rw [hbs]
  clear hL hix hbs
  have hb0:Below w.heap.size w (w.alloc (.cells #[.int .u32 (A:Int),.int .u32 (B:Int),.int .u32 (C:Int),.int .u32 (D:Int),.int .u32 (E:Int),.int .u32 (F:Int),.int .u32 (G:Int),.int .u32 (H:Int)] 256)):=(Below.refl _ _).alloc (Nat.le_refl _) _
  have Hb0:=hide hb0
  clear hb0
  go_enter Tryz.func175,Tryz.ntmps175
  go_wp2
  go_loopw [3,7] (fun ov iv wr=>∃ k:Nat,k<=8/\iv=.int .i64 (k:Int)/\OwnB w.heap.size wr ov ((L.take k).flatMap be4)/\Below w.heap.size w wr) (fun _ iv _=>8 - (intOf iv).toNat)
  case atStart=>exact ⟨0,by omega,rfl,by simpa using own_none _ _,Hb0.out⟩
  case round =>
    obtain ⟨k,hk,rfl,ho,hb⟩:=hrel
    have hs2:=hb.size
    have Ho:=hide ho
    have Hb:=hide hb
    clear ho hb
    by_cases hk8:k < 8
    · have hki:(k:Int) < 8:=by omega
      have hx:=Hix.out k hk8
      have Hsn:=hide (flat_snoc L k (by omega))
      have hTl:((L.take k).flatMap be4).length<=32:=by rw [flatB_len];simp;omega
      generalize L[k]'(by omega)=x at hx Hsn
      generalize hT:(L.take k).flatMap be4=T at Ho Hsn hTl
      have HT:=hide hT
      clear hT
      go_wp2_with (at_builtin;refine app_own _ rfl _ _ rfl w.heap.size _ _ T (be4 x) rfl rfl (Ho.out.alloc _) (rd_four _ _ _ _ _ _ _ _ _ _ (byte_at x 16777216) (byte_at x 65536) (byte_at x 256) (byte_at1 x) (by simp)) (by simp [be4];omega) (by simp;omega) ?_;intro v3 w3 ho3 hb3)
      go_roundw
      case rel=>exact ⟨k+1,by omega,by go_num,by rw [Hsn.out];exact ho3,(Hb.out.alloc hs2 _).trans hb3⟩
      case measure=>simp [intOf];omega
    · have e8:k=8:=by omega
      have ho:=Ho.out
      rw [List.take_of_length_le (by omega)] at ho
      have hcv:=str_own _ _ _ ho.rd (own_some ho (by rw [flatB_len];omega))
      have Hb2:=Hb
      clear ho
      go_wp2
      go_ret
      exact ⟨rfl,Hb2.out⟩
theorem dig_step {w wr wa wb:World} {P:List UInt8} {L:List Nat} {Tn:S8} {g:Nat} (ha:Ar wr w.heap.size L) (hL:L.length=8) (hab:Ab wr g P) (hs:w.heap.size < wr.heap.size) (hb:Below w.heap.size w wr) (hba:Below wr.drew.heap.size wr.drew wa) (hbb:Below wa.heap.size wa wb) (hg:w.heap.size+1<=g) :
    Ar (wb.setCells w.heap.size 0 (Tn.vals .u32).toList) w.heap.size Tn.list/\Ab (wb.setCells w.heap.size 0 (Tn.vals .u32).toList) g P/\w.heap.size < (wb.setCells w.heap.size 0 (Tn.vals .u32).toList).heap.size/\Below w.heap.size w (wb.setCells w.heap.size 0 (Tn.vals .u32).toList):=by
  have hdr:Below wr.heap.size wr wr.drew:=(Below.refl _ _).drew
  have e0:wr.drew.heap.size=wr.heap.size:=rfl
  have s1:=hba.size
  have s2:=hbb.size
  have s3:=(below_setCells (Below.refl 0 wb) w.heap.size (Nat.zero_le _) (Tn.vals .u32).toList 0).size
  refine ⟨?_,(((hab.below hdr (Nat.le_refl _)).below hba (Nat.le_refl _)).below hbb (Nat.le_refl _)).setsOther _ _ _ (by omega),by omega,below_setCells ((hb.drew.trans (hba.mono (by omega))).trans (hbb.mono (by omega))) _ (Nat.le_refl _) _ _⟩
  rw [vals_uv]
  exact (((ha.below hdr hs).below hba (by omega)).below hbb (by omega)).sets _ (by rw [hL];rfl)
theorem implDigest_any (v:Value) (l:List UInt8) (w:World) (hr:RdB w v l) (hl:l.length<=4000000) (hgl:Gl w) :
    Calls Tryz.prog 118 #[v] w fun e w'=>e=.returned (.string ⟨(bytesS (shaFold (padB l) (padQ l.length))).toArray⟩)/\Below w.heap.size w w':=by
  have c0:=hgl.start 0 (uv hC.a) rfl
  have c1:=hgl.start 1 (uv hC.b) rfl
  have c2:=hgl.start 2 (uv hC.c) rfl
  have c3:=hgl.start 3 (uv hC.d) rfl
  have c4:=hgl.start 4 (uv hC.e) rfl
  have c5:=hgl.start 5 (uv hC.f) rfl
  have c6:=hgl.start 6 (uv hC.g) rfl
  have c7:=hgl.start 7 (uv hC.h) rfl
  simp only [Nat.zero_add,uv] at c0 c1 c2 c3 c4 c5 c6 c7
  generalize hHC:hC=HC at c0 c1 c2 c3 c4 c5 c6 c7
  have HHC:=hide hHC
  clear hHC
  obtain ⟨A,B,C,D,E,F,G,H⟩:=HC
  obtain ⟨av,cv,hv⟩:=hr.shape
  have Hr:=hide hr
  have Hgl:=hide hgl
  clear hr hgl
  rw [hv] at Hr ⊢
  clear hv
  obtain ⟨P,hP⟩:∃ P,padB l=P:=⟨_,rfl⟩
  obtain ⟨Q,hQ⟩:∃ Q,padQ l.length=Q:=⟨_,rfl⟩
  have hPQ:P.length=64 * Q:=by rw [<- hP,<- hQ];exact padB_q l
  have hQ1:1<=Q:=by rw [<- hQ];unfold padQ;omega
  have hQ2:Q<=70000:=by rw [<- hQ];unfold padQ;omega
  rw [hP,hQ]
  have HP:=hide hP
  have HPQ:=hide hPQ
  clear hP hQ hPQ
  go_enter Tryz.func118,Tryz.ntmps118
  go_wp2_with fail
  refine (implPadded_any _ l _ (Hr.out.below ((Below.refl w.heap.size w).alloc (Nat.le_refl _) _) (Nat.le_refl _)) hl).mono ?_
  rintro e w2 ⟨pv,rfl,ho,hb2⟩
  rw [HP.out] at ho
  have hPQ:=HPQ.out
  have hs2:=hb2.size
  simp only [World.size_alloc] at hs2
  obtain ⟨g,cap,hpv,hcap,hcm⟩:=ho.shape (by intro e;rw [e] at hPQ;simp at hPQ;omega)
  have hab:Ab w2 g P/\w.heap.size+1<=g/\cap<=maxLen:=ho.ab (by simpa using hpv) (by simp) (by omega)
  rw [hpv]
  have Ha:Hid (Ar w2 w.heap.size (shaFold P 0).list):=hide ((Ar.new w _ _ _ _ (by show _=(hC.list.map uv).toArray;rw [HHC.out];rfl) rfl).below hb2 (by simp))
  have Hab:=hide hab.1
  have Hg:=hide hab.2.1
  have Hcm:=hide hab.2.2
  have Hb:Hid (Below w.heap.size w w2):=hide (((Below.refl w.heap.size w).alloc (Nat.le_refl _) _).trans (hb2.mono (by simp)))
  have Hs:=hide (show w.heap.size < w2.heap.size by omega)
  have Hgl2:=hide (Hgl.out.below Hb.out (Nat.le_refl _))
  have hcap':64 * Q<=cap:=by omega
  rw [hPQ]
  clear hPQ hab ho hb2 hs2 hpv c0 c1 c2 c3 c4 c5 c6 c7 hcap Hr
  go_wp2
  go_loopw [5] (fun iv wr=>∃ t at':Nat,at'=64 * t/\t<=Q/\iv=.int .i64 (at':Int)/\Ar wr w.heap.size (shaFold P t).list/\Ab wr g P/\w.heap.size < wr.heap.size/\Below w.heap.size w wr) (fun iv _=>64 * Q - (intOf iv).toNat)
  case atStart=>exact ⟨0,0,by omega,by omega,rfl,Ha.out,Hab.out,Hs.out,Hb.out⟩
  case round =>
    clear Ha Hab Hb Hs Hgl2
    obtain ⟨t,at',hat,ht,rfl,ha,hab,hs,hb⟩:=hrel
    have Hgl2:=hide (Hgl.out.below hb (Nat.le_refl _))
    by_cases hlt:t < Q
    · have hi1:(at':Int) < ((64 * Q:Nat):Int):=by omega
      obtain ⟨en,hen⟩:∃ en,at'+64=en:=⟨_,rfl⟩
      have hi2:IntKind.i64.wrap ((at':Int)+64)=(en:Int):=by rw [IntKind.wrap_i64];omega
      have hi3:(at':Int)<=(en:Int):=by omega
      have hi4:(en:Int)<=(cap:Int):=by omega
      have hi5:at' < cap:=by omega
      have hi6:en<=cap:=by omega
      have hi7:en - at'=64:=by omega
      have hi8:at'<=en:=by omega
      have hi9:¬ cap=at':=by omega
      have hfl:=shaFold_lt P t
      have Hfn:=hide (show shaFold P (t+1)=blockS (shaFold P t) (wordsB (blk P t)) from rfl)
      have hPQ:=HPQ.out
      have Hbl:=hide (blk_len P t (by omega))
      have Hcell:Hid (∀ i (h:i < (blk P t).length),wr.cell? ⟨g,at'+i,none⟩=some (.int .u8 ((blk P t)[i].toNat:Int))):=hide (by intro i h;rw [blk_at P t i (by omega) h,hat];exact hab.2 (64 * t+i) (by have:=Hbl.out;omega))
      generalize hT:shaFold P t=T at ha hfl Hfn
      generalize hB:blk P t=Bk at Hfn Hbl Hcell
      clear hT hB
      obtain ⟨a,b,c,d,e,f,g',h⟩:=T
      obtain ⟨d0,d1,d2,d3,d4,d5,d6,d7⟩:=ha.eight
      have Ha:=hide ha
      have Hab:=hide hab
      have Hs:=hide hs
      have Hb:=hide hb
      have Hat:=hide hat
      clear ha hab hs hb hat hPQ
      generalize hTn:blockS ⟨a,b,c,d,e,f,g',h⟩ (wordsB Bk)=Tn at Hfn
      have HTn:=hide hTn
      clear hTn
      go_wp2
      have Hcall:=hide (shaWords_any g at' (cap - at') Bk wr.drew Hbl.out (by omega) (by have:=Hcm.out;omega) Hab.out.1 (fun i h=>((Sm.refl wr).drew.cell _).trans (Hcell.out i h)))
      go_region_with (first
        | (go_at_call 174;refine Hcall.out.mono ?_;rintro e wa ⟨rfl,hba⟩;have Haa:=hide ((Ha.out.sm (Sm.refl wr).drew).below hba Hs.out);obtain ⟨f0,f1,f2,f3,f4,f5,f6,f7⟩:=Haa.out.eight;have Hgla:=hide ((Hgl2.out.below ((Below.refl wr.heap.size wr).drew) (Nat.le_refl _)).below hba (Nat.le_refl _)))
        | (go_at_call 173;refine (shaBlock_any a b c d e f g' h hfl (wordsB Bk) (wordsB_len _) (wordsB_lt _) _ Hgla.out).mono ?_;rintro e wb ⟨rfl,hbb⟩;rw [HTn.out];have hstore:=store_eight wb w.heap.size Tn (show wb.there w.heap.size 0 8 from (Haa.out.below hbb (Nat.lt_of_lt_of_le Hs.out hba.size)).there)))
      all_goals
        go_wp2
        go_roundw
        case rel=>exact ⟨t+1,en,by have:=Hat.out;omega,by omega,congrArg (Value.int .i64) (by omega),by rw [Hfn.out];exact dig_step Ha.out rfl Hab.out Hs.out Hb.out hba hbb Hg.out⟩
        case measure=>simp [intOf];have:=Hat.out;omega
    · have etq:t=Q:=by omega
      rw [etq] at ha hat
      generalize hT:shaFold P Q=T at ha
      have HT:=hide hT
      clear hT etq
      obtain ⟨a,b,c,d,e,f,g',h⟩:=T
      obtain ⟨d0,d1,d2,d3,d4,d5,d6,d7⟩:=ha.eight
      have Hb:=hide hb
      have Hs:=hide hs
      have hge:((64 * Q:Nat):Int)<=(at':Int):=by omega
      have hlq:decide ((at':Int) < 64 * (Q:Int))=false:=by rw [decide_eq_false_iff_not];omega
      clear hab hb hs ha hat
      go_wp2_with fail
      refine (shaBytes_any a b c d e f g' h _).mono ?_
      rintro e wb ⟨rfl,hbb⟩
      go_wp2
      go_ret
      exact ⟨by rw [HT.out];rfl,Hb.out.trans (hbb.mono (Nat.le_of_lt Hs.out))⟩
end Go.Proofs.YtohachldbpejpaaGreatDoor
