/- At all worlds and all numbers of what is done Fold of the program answers as the model's Fold, field by field, and the same bool; it writes into no argument and keeps nothing of one; its answer owns its memory: the law FnExactFold returns true, with no condition but that the library's type handle reads as the program's text lays it. -/
import Derived.LaidLaws
import Derived.LaidHandle
import Derived.LaidMore
import Derived.OpenVars
import Derived.Stop.Joined
import Derived.Test.YthehfkafcdociaaGreatDoorTie
import Derived.Test.YthehfkafcdociaaGreatDoorCards
import Derived.Test.YthehfkafcdociaaGreatDoorZyFoBnd
import Derived.ChangeSame
import Derived.ChangeVars
import Derived.JoinedOf
import Derived.Below
import Derived.SevenTiedAt
set_option maxRecDepth 100000
set_option maxHeartbeats 8000000
namespace Go.Proofs.YthehfkafcdociaaGreatDoor
open Go.ChangeShapes Go.WideShapes Go.RowKit
set_option linter.unusedVariables false
theorem Tryz.et : Tryz.prog.globalNamed "errors.errorType" = some 0 := by kernel_rfl
theorem Tryz.rt : (Tryz.prog.cutTypes.find? (·.1 == "internal/reflectlite.rtype")).map (·.2) = some 256 := by kernel_rfl
theorem Tryz.oneRow:((List.range 337).filter fun t=>Tryz.prog.rowNamed t [101,114,114,111,114])=[214]:=by kernel_rfl
theorem Tryz.nTypes:Tryz.prog.types.size=337:=by kernel_rfl
theorem gh_of_handles {W : World} (h : handlesMet Tryz.prog [("errors.errorType", Rows.laid_errors_errorType)] W) : Gh W := by
  obtain ⟨name,u,ty,e1,e2,e3,e4,e5⟩:=h _ (List.mem_singleton.2 rfl)
  have en:name=[101,114,114,111,114]:=(Option.some.inj e1).symm
  subst en
  obtain rfl:=Option.some.inj (Tryz.rt.symm.trans e2)
  have hm:ty ∈ (List.range 337).filter fun t=>Tryz.prog.rowNamed t [101,114,114,111,114]:=List.mem_filter.2 ⟨List.mem_range.2 (by rw [<- Tryz.nTypes];exact e3),e4⟩
  rw [Tryz.oneRow] at hm
  obtain rfl:=List.mem_singleton.1 hm
  have hh:typeHandle Tryz.prog 214=.pointer (some ⟨1,214,none⟩):=by kernel_rfl
  rw [hh] at e5
  unfold Gh
  simpa using World.var?_cell Tryz.et e5 0
def handPut:Obj->Obj
  | .cells _ t frozen=>.cells #[.iface 256 (.agg #[.pointer (some ⟨1,214,none⟩)])] t frozen
  | o=>o
def laidOn (w0:World):World:={ w0 with heap:=w0.heap.modify 0 handPut }
end Go.Proofs.YthehfkafcdociaaGreatDoor
namespace Go.Proofs.YthehfkafcdociaaGreatDoor
open Go.ChangeShapes Go.WideShapes Go.ChangeAt Go.RowKit
open Go.ChangeMaps (open_string shut_string)
set_option linter.unusedVariables false
theorem fnExactFold_own:ownKnob Tryz.prog.godebug=none:=by kernel_rfl
theorem fnExactFold_laidOut:laidOutB Tryz.prog=true:=by kernel_rfl
def ldC (e:Int) (v:Value):List Value:=[.int .i64 e,v]
theorem ldC_one {w:World} {e:Int} {v:Value} {l:List Ac} (h:RdA w v l):(ldC e v).all (·.oneCell')=true:=by
  obtain ⟨a,c,rfl⟩:=h.shape
  rfl
theorem wdC_one {w:World} {p:Wd} {u:Wv} (h:RdWd w p u):(wdC p u).all (·.oneCell')=true:=by
  obtain ⟨ada,cpa,eqa⟩:=h.ka.shape
  obtain ⟨adf,cpf,eqf⟩:=h.kf.shape
  obtain ⟨adn,cpn,eqn⟩:=h.kn.shape
  obtain ⟨adb,cpb,eqb⟩:=h.kb.shape
  obtain ⟨ads,cps,eqs⟩:=h.ks.shape
  obtain ⟨adm,cpm,eqm⟩:=h.km.shape
  simp [wdC,Value.oneCell',eqa,eqf,eqn,eqb,eqs,eqm]
theorem Tryz.infoAWd:(Tryz.prog.info? 31).map (·.size)=some 7:=by kernel_rfl
theorem Tryz.infoBWd:(Tryz.prog.info? 44).map (·.size)=some 7:=by kernel_rfl
theorem Tryz.infoLd:(Tryz.prog.info? 36).map (·.size)=some 2:=by kernel_rfl
theorem wpList_load_guard {P:Program} {ops:Array Oper} {rest:List Oper} {op:Oper} {a:Act} {w:World} {Q:Exit->Act->World->Prop} (hw:Region.wanted op (yielded ops a.tmps)=true) (ty:TypeId) (x:Operand) (ho:op.op=.load ty x)
    (b o:Nat) (hx:a.eval x=.pointer (some ⟨b,o,none⟩)) (cs:List Value) (d:TypeDesc) (hc:w.rangeAt b o cs)
    (hu:P.underlying ty=some d) (hd:d.isRow=true) (hi:(P.info? ty).map (·.size)=some cs.length)
    (h:wpList P ops Q rest (a.put op.dst (.agg cs.toArray)) w):wpList P ops Q (op :: rest) a w :=
  wpList_step fun K hK=>by rw [if_pos hw];exact wp_load_mid ty x ho b o hx cs d hc hu hd hi (hK _ _ h)
theorem fnExactFold_walk (z0:Wd) (y0:Wv) (a1:Option Addr) (len1 cap1:Nat) (z1:List Int) (w:World) (hgh:Gh w) (w0:RdWd w z0 y0/\FitWd z0) (w1:RdI w (.slice a1 len1 cap1) z1) :
    Calls Tryz.prog 3 #[wdV z0 y0,.slice a1 len1 cap1] w fun e w'=>e=.returned (.bool true)/\Below w.heap.size w w':=by
  obtain ⟨hr,hft⟩:=w0
  have hd:=w1
  clear w1
  obtain rfl:len1=z1.length:=by
    obtain ⟨a,c,h⟩:=hd.shape
    cases h
    rfl
  obtain ⟨w1,hw1⟩:∃ x,w.alloc (.cells (wdC z0 y0).toArray 31)=x:=⟨_,rfl⟩
  have b1:Below w.heap.size w w1:=by rw [<- hw1];exact (Below.refl _ w).alloc (Nat.le_refl _) _
  have KA1:=hide (show Blk w1 w.heap.size 31 (wdC z0 y0) from by rw [<- hw1];exact Blk.new w _ _)
  have z0z:=hide KA1.out.lt
  have Hz:=hide (szwWorld_one z0 y0 1048576 w1 (hr.below b1 (Nat.le_refl _)) (by omega) hft)
  have HT:=hide (fun (hf:FewWd z0) V (hV:Below w.heap.size w V)=>toWorld_any z0 y0 V (hr.below hV (Nat.le_refl _)) hf)
  have HD:=hide (fun (hl:z1.length<=4000000) V (hV:Below w.heap.size w V)=>toIntS_any (.slice a1 z1.length cap1) z1 V (hd.below hV (Nat.le_refl _)) hl)
  have HS:=hide (fun (hf:FewWd z0) (hg:FewG (z0.ep,z0.la)) (hl:z1.length<=4000000) u t V (h1:RdWd V z0 u) (h2:RdI V t z1)=>specFoldW z0 u z1 t V h1 hf hg h2 hl)
  have HI:=hide (fun (hf:FewWd z0) (hg:FewG (z0.ep,z0.la)) (hl:z1.length<=4000000) u t V (hV:Below w.heap.size w V) (h1:RdWd V z0 u) (h2:RdI V t z1)=>implFoldW z0 u z1 t V (hgh.below hV) h1 hf hg h2 hl)
  have HG:=hide (fun (h:z0.la.length+totA z0.la<=1048576)=>(show FewG (z0.ep,z0.la) from ⟨by show z0.la.length<=3999999;omega,fun a ha=>⟨(hft.ga a ha).1,by have h1:=totA_at z0.la a ha;unfold wgA at h1;omega⟩⟩))
  have IA:=hide (show (Tryz.prog.info? 31).map (·.size)=some (wdC z0 y0).length from Tryz.infoAWd)
  have B1:=hide b1
  rw [show wdV z0 y0=.agg (wdC z0 y0).toArray from rfl] at Hz HT ⊢
  clear hr hft b1 hgh hd
  generalize wdC z0 y0=cs at KA1 Hz HT IA hw1 ⊢
  have RA1:=hide (blk_range KA1.out)
  go_enter Tryz.func3,Tryz.ntmps3
  go_upto_region 1 with fail
  (try rw [hw1])
  clear hw1
  by_cases hn:1048576 < z1.length
  · have hn1:(1048576:Int) < (z1.length:Int):=by omega
    clear HT HS HI HG HD Hz
    go_wp2
    go_ret
    exact ⟨rfl,B1.out⟩
  have hn1:¬ (1048576:Int) < (z1.length:Int):=by omega
  go_upto_region 4 with fail
  obtain ⟨y1,hy1⟩:∃ v:Value,.slice a1 z1.length cap1=v:=⟨_,rfl⟩
  rw [hy1] at HD ⊢
  clear hy1 hn1
  go_wp2_with (first
    | (refine wpList_load_mid rfl 31 _ rfl w.heap.size 0 rfl cs _ RA1.out Tryz.underlying31 rfl IA.out ?_)
    | fail)
  refine Hz.out.mono ?_
  rintro e w2 ⟨r,rfl,hfit,hb2⟩
  have Hfit:=hide hfit
  clear hfit Hz
  have KA2:=hide (KA1.out.below hb2 KA1.out.lt)
  have B2:=hide (B1.out.trans (hb2.mono B1.out.size))
  have z2:=hide hb2.size
  clear RA1 KA1 B1  hb2
  have RA2:=hide (blk_range KA2.out)
  by_cases hneg:r < 0
  · clear Hfit HT HS HI HG HD
    go_wp2
    go_ret
    exact ⟨rfl,B2.out⟩
  obtain ⟨hfew,hsz⟩:=Hfit.out (by omega)
  have hw8:wgWd z0<=1048576:=by omega
  have hl4:z1.length<=4000000:=by omega
  have hla:z0.la.length+totA z0.la<=1048576:=by unfold wgWd at hw8;omega
  have hg:=HG.out hla
  obtain ⟨hQ1,hQ2,hQ3⟩:=foA_small z0.bs z0.ep z0.la z1 hla
  have hn3:nlWd 1 z0<=1+18 * 1048576:=by have:=nlWd_le 1 z0;omega
  have hn4:1<=nlWd 1 z0:=nlWd_ge 1 z0
  have HT:=hide (HT.out hfew)
  have HD:=hide (HD.out hl4)
  have HS:=hide (HS.out hfew hg hl4)
  have HI:=hide (HI.out hfew hg hl4)
  have HEx:=hide (fun u t V (h1:RdWd V z0 u) (h2:RdWd V z0 t)=>eqWorld_same z0 u t V h1 h2 hfew)
  have HEd:=hide (fun u t V (h1:RdI V u z1) (h2:RdI V t z1)=>equInt u t z1 V h1 h2 hl4)
  have HMx:=hide (fun u lo hi V (h:OwnWd lo hi V z0 u) (h1:hi<=V.heap.size)=>markWorld_own z0 u 1 lo hi V h h1 hfew (by omega) (by omega))
  have HMd:=hide (fun u lo hi V (h:InI lo hi V u z1)=>mkuInt u z1 (nlWd 1 z0) lo hi V h hl4 (by omega) (by omega))
  have HEr:=hide (fun u t V (h1:RdA V u (foA z0.bs z0.ep z0.la z1).2) (h2:RdA V t (foA z0.bs z0.ep z0.la z1).2)=>equLedger (foA z0.bs z0.ep z0.la z1).1 u t (foA z0.bs z0.ep z0.la z1).2 V h1 h2 hQ1 hQ2)
  have HMr:=hide (fun u lo hi V (h:OwnX lo hi V u (foA z0.bs z0.ep z0.la z1).2)=>mkuLedger (foA z0.bs z0.ep z0.la z1).1 u (foA z0.bs z0.ep z0.la z1).2 1 lo hi V h hQ1 hQ2 hQ3 (by omega))
  have HHr:=hide (fun u V (h:RdA V u (mkAs 1 (foA z0.bs z0.ep z0.la z1).2))=>heldLedger_any (foA z0.bs z0.ep z0.la z1).1 u (foA z0.bs z0.ep z0.la z1).2 1 V h (by omega) (fun a ha=>by have:=hQ2 a ha;omega) (by omega) (by omega))
  clear Hfit hfew hsz hw8 hl4 hla hg hQ1 hQ2 hQ3 hn3 hn4 HG hn
  generalize (foA z0.bs z0.ep z0.la z1).1=QE at HS HI HEr HMr HHr
  generalize nxs 1 (foA z0.bs z0.ep z0.la z1).2=nR at HMr HHr
  generalize mkAs 1 (foA z0.bs z0.ep z0.la z1).2=QM at HMr HHr
  generalize (foA z0.bs z0.ep z0.la z1).2=QL at HS HI HEr HMr
  generalize okD z0.bs z1=QB at HS HI
  generalize nlWd 1 z0+z1.length=nY at HMd
  generalize nlWd 1 z0=nX at HMx HMd
  generalize mkI nX z1.length=XI at HMd
  generalize mlWd 1 z0=XM at HMx
  have hqq:(QB != QB)=false:=by cases QB <;> rfl
  have hnY:¬ ((nY:Int) < 0):=by omega
  have hnR:¬ ((nR:Int) < 0):=by omega
  go_wp2_with (first
    | (refine wpList_load_mid rfl 31 _ rfl w.heap.size 0 rfl cs _ RA2.out Tryz.underlying31 rfl IA.out ?_)
    | fail)
  refine (HT.out w2 B2.out).mono ?_
  rintro e w3 ⟨u3,rfl,o3,hb3⟩
  have DT3:=hide o3.rd
  have KA3:=hide (KA2.out.below hb3 KA2.out.lt)
  have B3:=hide (B2.out.trans (hb3.mono B2.out.size))
  have z3:=hide hb3.size
  clear RA2 KA2 B2  hb3
  have RA3:=hide (blk_range KA3.out)
  rw [show wdV z0 u3=.agg (wdC z0 u3).toArray from rfl]
  clear o3
  go_wp2_with (first
    | (refine wpList_load_mid rfl 31 _ rfl w.heap.size 0 rfl cs _ RA3.out Tryz.underlying31 rfl IA.out ?_)
    | fail)
  refine (HD.out w3 B3.out).mono ?_
  rintro e w4 ⟨d4,rfl,o4,hb4⟩
  have r4:=o4.rd
  clear o4
  have KA4:=hide (KA3.out.below hb4 KA3.out.lt)
  have B4:=hide (B3.out.trans (hb4.mono B3.out.size))
  have z4:=hide hb4.size
  have DT4:=hide (DT3.out.below hb4 (Nat.le_refl _))
  clear RA3 KA3 B3 DT3 hb4
  have RA4:=hide (blk_range KA4.out)
  have C4:=hide (HS.out u3 d4 w4 DT4.out r4)
  rw [show wdV z0 u3=.agg (wdC z0 u3).toArray from rfl] at C4
  clear r4 DT4 HS
  generalize wdC z0 u3=c3 at C4 ⊢
  go_wp2_with (first
    | (refine wpList_load_mid rfl 31 _ rfl w.heap.size 0 rfl cs _ RA4.out Tryz.underlying31 rfl IA.out ?_)
    | fail)
  refine C4.out.mono ?_
  rintro e w5 ⟨uW,rfl,oW,hb5⟩
  have DW5:=hide oW.rd
  clear C4
  have KA5:=hide (KA4.out.below hb5 KA4.out.lt)
  have B5:=hide (B4.out.trans (hb5.mono B4.out.size))
  have z5:=hide hb5.size
  clear RA4 KA4 B4  hb5
  have RA5:=hide (blk_range KA5.out)
  obtain ⟨cW,hcW⟩:∃ c,ldC QE uW=c:=⟨_,rfl⟩
  have ecW:=hide (show lgV QE uW=.agg cW.toArray from by rw [<- hcW];rfl)
  rw [ecW.out]
  have bz5:Blk (w5.alloc (.cells #[.int .i64 0,.slice none 0 0] 36)) w5.heap.size 36 [.int .i64 0,.slice none 0 0]:=Blk.new w5 _ _
  have oneW:=hide (show cW.toArray.all (·.oneCell')=true from by rw [List.all_toArray,<- hcW];exact ldC_one oW.rd)
  have IW:=hide (show (Tryz.prog.info? 36).map (·.size)=some cW.length from by rw [<- hcW];exact Tryz.infoLd)
  have HtW:=hide (show (w5.alloc (.cells #[.int .i64 0,.slice none 0 0] 36)).there w5.heap.size 0 cW.toArray.size from bz5.there (by rw [List.size_toArray,<- hcW];rfl))
  obtain ⟨w6,hw6⟩:∃ x,(w5.alloc (.cells #[.int .i64 0,.slice none 0 0] 36)).setCells w5.heap.size 0 cW=x:=⟨_,rfl⟩
  have KW6:=hide (show Blk w6 w5.heap.size 36 cW from by rw [<- hw6];exact blk_all bz5 (by rw [<- hcW];rfl))
  have hb6:Below w5.heap.size w5 w6:=by rw [<- hw6];exact ((Below.refl _ w5).alloc (Nat.le_refl _) _).trans (putC_below (Nat.le_refl _) _ _ _)
  have Hw6:=hide hw6
  have y6:=hide (KW6.out.lt)
  clear bz5 hw6
  have KA6:=hide (KA5.out.below hb6 KA5.out.lt)
  have B6:=hide (B5.out.trans (hb6.mono B5.out.size))
  have z6:=hide hb6.size
  have DW6:=hide (DW5.out.below hb6 (Nat.le_refl _))
  clear RA5 KA5 B5 DW5 hb6
  have RA6:=hide (blk_range KA6.out)
  have RW6:=hide (blk_range KW6.out)
  have RW:=DW6
  have D6:=hide (Below.refl w6.heap.size w6)
  clear DW6 oW hcW
  go_wp2_with (first
    | (refine wpList_load_mid rfl 31 _ rfl w.heap.size 0 rfl cs _ RA6.out Tryz.underlying31 rfl IA.out ?_)
    | (refine wpList_load_mid rfl 36 _ rfl w5.heap.size 0 rfl cW _ RW6.out Tryz.underlying36 rfl IW.out ?_)
    | (refine wpList_store_mid rfl 36 _ _ rfl w5.heap.size 0 cW.toArray rfl rfl HtW.out (by simpa using IW.out) oneW.out ?_;rw [Hw6.out])
    | fail)
  refine (HT.out w6 B6.out).mono ?_
  rintro e w7 ⟨uX,rfl,oX,hb7⟩
  have DX7:=hide oX
  have KA7:=hide (KA6.out.below hb7 KA6.out.lt)
  have KW7:=hide (KW6.out.below hb7 KW6.out.lt)
  have B7:=hide (B6.out.trans (hb7.mono B6.out.size))
  have z7:=hide hb7.size
  have D7:=hide (D6.out.trans (hb7.mono D6.out.size))
  clear RA6 KA6 RW6 KW6 B6 D6  hb7
  have RA7:=hide (blk_range KA7.out)
  have RW7:=hide (blk_range KW7.out)
  obtain ⟨cX,hcX⟩:∃ c,wdC z0 uX=c:=⟨_,rfl⟩
  have ecX:=hide (show wdV z0 uX=.agg cX.toArray from by rw [<- hcX];rfl)
  rw [ecX.out]
  clear oneW HtW Hw6
  have bz7:Blk (w7.alloc (.cells #[.int .i64 0,.slice none 0 0,.slice none 0 0,.slice none 0 0,.slice none 0 0,.slice none 0 0,.slice none 0 0] 44)) w7.heap.size 44 [.int .i64 0,.slice none 0 0,.slice none 0 0,.slice none 0 0,.slice none 0 0,.slice none 0 0,.slice none 0 0]:=Blk.new w7 _ _
  have oneX:=hide (show cX.toArray.all (·.oneCell')=true from by rw [List.all_toArray,<- hcX];exact wdC_one oX.rd)
  have IX:=hide (show (Tryz.prog.info? 44).map (·.size)=some cX.length from by rw [<- hcX];exact Tryz.infoBWd)
  have HtX:=hide (show (w7.alloc (.cells #[.int .i64 0,.slice none 0 0,.slice none 0 0,.slice none 0 0,.slice none 0 0,.slice none 0 0,.slice none 0 0] 44)).there w7.heap.size 0 cX.toArray.size from bz7.there (by rw [List.size_toArray,<- hcX];rfl))
  obtain ⟨w8,hw8⟩:∃ x,(w7.alloc (.cells #[.int .i64 0,.slice none 0 0,.slice none 0 0,.slice none 0 0,.slice none 0 0,.slice none 0 0,.slice none 0 0] 44)).setCells w7.heap.size 0 cX=x:=⟨_,rfl⟩
  have KX8:=hide (show Blk w8 w7.heap.size 44 cX from by rw [<- hw8];exact blk_all bz7 (by rw [<- hcX];rfl))
  have hb8:Below w7.heap.size w7 w8:=by rw [<- hw8];exact ((Below.refl _ w7).alloc (Nat.le_refl _) _).trans (putC_below (Nat.le_refl _) _ _ _)
  have Hw8:=hide hw8
  have y8:=hide (KX8.out.lt)
  clear bz7 hw8
  have KA8:=hide (KA7.out.below hb8 KA7.out.lt)
  have KW8:=hide (KW7.out.below hb8 KW7.out.lt)
  have B8:=hide (B7.out.trans (hb8.mono B7.out.size))
  have z8:=hide hb8.size
  have D8:=hide (D7.out.trans (hb8.mono D7.out.size))
  have DX8:=hide (DX7.out.kept (Kept.of_oth (Oth.of_below (S:=fun _=>False) hb8) (fun _ _ _ e=>e)))
  clear RA7 KA7 RW7 KW7 B7 D7 DX7 hb8
  have RA8:=hide (blk_range KA8.out)
  have RW8:=hide (blk_range KW8.out)
  have RX8:=hide (blk_range KX8.out)
  clear oX hcX
  go_wp2_with (first
    | (refine wpList_load_mid rfl 31 _ rfl w.heap.size 0 rfl cs _ RA8.out Tryz.underlying31 rfl IA.out ?_)
    | (refine wpList_load_mid rfl 36 _ rfl w5.heap.size 0 rfl cW _ RW8.out Tryz.underlying36 rfl IW.out ?_)
    | (refine wpList_load_mid rfl 44 _ rfl w7.heap.size 0 rfl cX _ RX8.out Tryz.underlying44 rfl IX.out ?_)
    | (refine wpList_store_mid rfl 44 _ _ rfl w7.heap.size 0 cX.toArray rfl rfl HtX.out (by simpa using IX.out) oneX.out ?_;rw [Hw8.out])
    | fail)
  refine (HD.out w8 B8.out).mono ?_
  rintro e w9 ⟨uD,rfl,oD,hb9⟩
  have DD9:=hide (InI.of oD)
  clear oD
  have KA9:=hide (KA8.out.below hb9 KA8.out.lt)
  have KW9:=hide (KW8.out.below hb9 KW8.out.lt)
  have KX9:=hide (KX8.out.below hb9 KX8.out.lt)
  have B9:=hide (B8.out.trans (hb9.mono B8.out.size))
  have z9:=hide hb9.size
  have D9:=hide (D8.out.trans (hb9.mono D8.out.size))
  have DX9:=hide (DX8.out.kept (Kept.of_oth (Oth.of_below (S:=fun _=>False) hb9) (fun _ _ _ e=>e)))
  clear RA8 KA8 RW8 KW8 RX8 KX8 B8 D8 DX8 hb9
  have RA9:=hide (blk_range KA9.out)
  have RW9:=hide (blk_range KW9.out)
  have RX9:=hide (blk_range KX9.out)
  have C10:=hide (HI.out uX uD w9 B9.out DX9.out.rd DD9.out.rd)
  rw [ecX.out] at C10
  clear oneX HtX Hw8
  go_wp2_with (first
    | (refine wpList_load_mid rfl 31 _ rfl w.heap.size 0 rfl cs _ RA9.out Tryz.underlying31 rfl IA.out ?_)
    | (refine wpList_load_mid rfl 36 _ rfl w5.heap.size 0 rfl cW _ RW9.out Tryz.underlying36 rfl IW.out ?_)
    | (refine wpList_load_mid rfl 44 _ rfl w7.heap.size 0 rfl cX _ RX9.out Tryz.underlying44 rfl IX.out ?_)
    | fail)
  refine C10.out.mono ?_
  rintro e w10 ⟨uG,rfl,oG,hb10⟩
  have DG10:=hide oG.ox
  have KA10:=hide (KA9.out.below hb10 KA9.out.lt)
  have KW10:=hide (KW9.out.below hb10 KW9.out.lt)
  have KX10:=hide (KX9.out.below hb10 KX9.out.lt)
  have B10:=hide (B9.out.trans (hb10.mono B9.out.size))
  have z10:=hide hb10.size
  have D10:=hide (D9.out.trans (hb10.mono D9.out.size))
  have DX10:=hide (DX9.out.kept (Kept.of_oth (Oth.of_below (S:=fun _=>False) hb10) (fun _ _ _ e=>e)))
  have DD10:=hide (DD9.out.kept (Kept.of_oth (Oth.of_below (S:=fun _=>False) hb10) (fun _ _ _ e=>e)))
  clear RA9 KA9 RW9 KW9 RX9 KX9 B9 D9 DX9 DD9 hb10
  have RA10:=hide (blk_range KA10.out)
  have RW10:=hide (blk_range KW10.out)
  have RX10:=hide (blk_range KX10.out)
  obtain ⟨cG,hcG⟩:∃ c,ldC QE uG=c:=⟨_,rfl⟩
  have ecG:=hide (show lgV QE uG=.agg cG.toArray from by rw [<- hcG];rfl)
  rw [ecG.out]
  clear C10
  have bz10:Blk (w10.alloc (.cells #[.int .i64 0,.slice none 0 0] 36)) w10.heap.size 36 [.int .i64 0,.slice none 0 0]:=Blk.new w10 _ _
  have oneG:=hide (show cG.toArray.all (·.oneCell')=true from by rw [List.all_toArray,<- hcG];exact ldC_one oG.rd)
  have IG:=hide (show (Tryz.prog.info? 36).map (·.size)=some cG.length from by rw [<- hcG];exact Tryz.infoLd)
  have HtG:=hide (show (w10.alloc (.cells #[.int .i64 0,.slice none 0 0] 36)).there w10.heap.size 0 cG.toArray.size from bz10.there (by rw [List.size_toArray,<- hcG];rfl))
  obtain ⟨w11,hw11⟩:∃ x,(w10.alloc (.cells #[.int .i64 0,.slice none 0 0] 36)).setCells w10.heap.size 0 cG=x:=⟨_,rfl⟩
  have KG11:=hide (show Blk w11 w10.heap.size 36 cG from by rw [<- hw11];exact blk_all bz10 (by rw [<- hcG];rfl))
  have hb11:Below w10.heap.size w10 w11:=by rw [<- hw11];exact ((Below.refl _ w10).alloc (Nat.le_refl _) _).trans (putC_below (Nat.le_refl _) _ _ _)
  have Hw11:=hide hw11
  have y11:=hide (KG11.out.lt)
  clear bz10 hw11
  have KA11:=hide (KA10.out.below hb11 KA10.out.lt)
  have KW11:=hide (KW10.out.below hb11 KW10.out.lt)
  have KX11:=hide (KX10.out.below hb11 KX10.out.lt)
  have B11:=hide (B10.out.trans (hb11.mono B10.out.size))
  have z11:=hide hb11.size
  have D11:=hide (D10.out.trans (hb11.mono D10.out.size))
  have DX11:=hide (DX10.out.kept (Kept.of_oth (Oth.of_below (S:=fun _=>False) hb11) (fun _ _ _ e=>e)))
  have DD11:=hide (DD10.out.kept (Kept.of_oth (Oth.of_below (S:=fun _=>False) hb11) (fun _ _ _ e=>e)))
  have DG11:=hide (DG10.out.kept (Kept.of_oth (Oth.of_below (S:=fun _=>False) hb11) (fun _ _ _ e=>e)))
  clear RA10 KA10 RW10 KW10 RX10 KX10 B10 D10 DX10 DD10 DG10 hb11
  have RA11:=hide (blk_range KA11.out)
  have RW11:=hide (blk_range KW11.out)
  have RX11:=hide (blk_range KX11.out)
  have RG11:=hide (blk_range KG11.out)
  have C12:=hide (HEr.out uG uW w11 DG11.out.rd (RW.out.below D11.out (Nat.le_refl _)))
  rw [ecG.out,ecW.out] at C12
  clear oG hcG
  go_wp2_with (first
    | (refine wpList_load_mid rfl 31 _ rfl w.heap.size 0 rfl cs _ RA11.out Tryz.underlying31 rfl IA.out ?_)
    | (refine wpList_load_mid rfl 36 _ rfl w5.heap.size 0 rfl cW _ RW11.out Tryz.underlying36 rfl IW.out ?_)
    | (refine wpList_load_mid rfl 44 _ rfl w7.heap.size 0 rfl cX _ RX11.out Tryz.underlying44 rfl IX.out ?_)
    | (refine wpList_load_mid rfl 36 _ rfl w10.heap.size 0 rfl cG _ RG11.out Tryz.underlying36 rfl IG.out ?_)
    | (refine wpList_store_mid rfl 36 _ _ rfl w10.heap.size 0 cG.toArray rfl rfl HtG.out (by simpa using IG.out) oneG.out ?_;rw [Hw11.out])
    | fail)
  refine C12.out.mono ?_
  rintro e w12 ⟨rfl,hb12⟩
  have KA12:=hide (KA11.out.below hb12 KA11.out.lt)
  have KW12:=hide (KW11.out.below hb12 KW11.out.lt)
  have KX12:=hide (KX11.out.below hb12 KX11.out.lt)
  have KG12:=hide (KG11.out.below hb12 KG11.out.lt)
  have B12:=hide (B11.out.trans (hb12.mono B11.out.size))
  have z12:=hide hb12.size
  have D12:=hide (D11.out.trans (hb12.mono D11.out.size))
  have DX12:=hide (DX11.out.kept (Kept.of_oth (Oth.of_below (S:=fun _=>False) hb12) (fun _ _ _ e=>e)))
  have DD12:=hide (DD11.out.kept (Kept.of_oth (Oth.of_below (S:=fun _=>False) hb12) (fun _ _ _ e=>e)))
  have DG12:=hide (DG11.out.kept (Kept.of_oth (Oth.of_below (S:=fun _=>False) hb12) (fun _ _ _ e=>e)))
  clear RA11 KA11 RW11 KW11 RX11 KX11 RG11 KG11 B11 D11 DX11 DD11 DG11 hb12
  have RA12:=hide (blk_range KA12.out)
  have RW12:=hide (blk_range KW12.out)
  have RX12:=hide (blk_range KX12.out)
  have RG12:=hide (blk_range KG12.out)
  clear C12 oneG HtG Hw11
  have HEX:=hide (fun t V (h1:RdWd V z0 uX) (h2:RdWd V z0 t)=>HEx.out uX t V h1 h2)
  rw [ecX.out] at HEX
  have HSS:=hide (fun V (hV:Below w12.heap.size w12 V)=>(show V.rangeAt w7.heap.size 0 cX/\V.rangeAt w.heap.size 0 cs from ⟨range_below RX12.out hV KX12.out.lt,range_below RA12.out hV KA12.out.lt⟩))
  have bD:Below w12.heap.size w12 w12.drew:=(Below.refl _ w12).drew
  have hS0:=HSS.out _ bD
  go_wp2
  refine wp_region_held_drew (S:=fun W=>W.rangeAt w7.heap.size 0 cX/\W.rangeAt w.heap.size 0 cs) (by kernel_rfl) hS0 (fun hHeld=>?_)
  refine wpAnyH_take (i:=0) (v:=.agg cX.toArray) rfl (by kernel_rfl) (by kernel_rfl) (by kernel_rfl) (fun _ _ _ h=>h) (yieldsIf_load_mid (by rfl) 44 _ rfl w7.heap.size 0 rfl cX _ (fun W hW=>hW.1) Tryz.underlying44 rfl IX.out) (by assumption) ?_
  change wpAnyH Tryz.prog _ _ _ _ _ _ (Act.put _ (some 52) _) _
  simp only [Act.put,List.setIfInBounds_toArray,List.set_cons_zero,List.set_cons_succ]
  refine wpAnyH_take (i:=1) (v:=.agg cs.toArray) rfl (by kernel_rfl) (by kernel_rfl) (by kernel_rfl) (fun _ _ _ h=>h) (yieldsIf_load_mid (by rfl) 31 _ rfl w.heap.size 0 rfl cs _ (fun W hW=>hW.2) Tryz.underlying31 rfl IA.out) (by assumption) ?_
  change wpAnyH Tryz.prog _ _ _ _ _ _ (Act.put _ (some 53) _) _
  simp only [Act.put,List.setIfInBounds_toArray,List.set_cons_zero,List.set_cons_succ]
  refine wpAnyH_ready (rs:=[2]) (by kernel_rfl) (by simp) ?_
  refine AllReadyH.cons rfl (fun K hK=>?_) AllReadyH.nil
  go_simp
  go_wp2_with (go_at_call 6;(with_reducible refine (HT.out _ (B12.out.trans (bD.mono B12.out.size))).mono ?_);rintro e w13 ⟨u13,rfl,o13,hb13⟩;have c13:=bD.trans (hb13.mono bD.size);have hS13:=HSS.out _ c13;have r13:=o13.rd)
  refine hK.out _ _ hS13 (fun hHeld=>?_)
  try simp only [Act.put,List.setIfInBounds_toArray,List.set_cons_zero,List.set_cons_succ]
  refine wpAnyH_ready (rs:=[3]) (by kernel_rfl) (by simp) ?_
  refine AllReadyH.cons rfl (fun K hK=>?_) AllReadyH.nil
  go_simp
  go_wp2_with (go_at_call 10;(with_reducible refine (HEX.out _ _ (DX12.out.rd.below c13 (Nat.le_refl _)) r13).mono ?_);rintro e w14 ⟨rfl,hb14⟩;have c14:=c13.trans (hb14.mono c13.size);have hS14:=HSS.out _ c14)
  refine hK.out _ _ hS14 (fun hHeld=>?_)
  try simp only [Act.put,List.setIfInBounds_toArray,List.set_cons_zero,List.set_cons_succ]
  refine wpAnyH_take (i:=4) (v:=.bool false) rfl (by kernel_rfl) (by kernel_rfl) (by kernel_rfl) (fun _ _ _ h=>h) (Or.inl ⟨by rfl,fun W hW=>by go_simp⟩) (by assumption) ?_
  change wpAnyH Tryz.prog _ _ _ _ _ _ (Act.put _ (some 56) _) _
  simp only [Act.put,List.setIfInBounds_toArray,List.set_cons_zero,List.set_cons_succ]
  refine wpAnyH_done (by kernel_rfl) ?_ _
  clear hS0 hS13 hS14 o13 r13 hb13 hb14 c13 HSS HEX HEx bD
  have KA14:=hide (KA12.out.below c14 KA12.out.lt)
  have KW14:=hide (KW12.out.below c14 KW12.out.lt)
  have KX14:=hide (KX12.out.below c14 KX12.out.lt)
  have KG14:=hide (KG12.out.below c14 KG12.out.lt)
  have B14:=hide (B12.out.trans (c14.mono B12.out.size))
  have z14:=hide c14.size
  have D14:=hide (D12.out.trans (c14.mono D12.out.size))
  have DX14:=hide (DX12.out.kept (Kept.of_oth (Oth.of_below (S:=fun _=>False) c14) (fun _ _ _ e=>e)))
  have DD14:=hide (DD12.out.kept (Kept.of_oth (Oth.of_below (S:=fun _=>False) c14) (fun _ _ _ e=>e)))
  have DG14:=hide (DG12.out.kept (Kept.of_oth (Oth.of_below (S:=fun _=>False) c14) (fun _ _ _ e=>e)))
  clear RA12 KA12 RW12 KW12 RX12 KX12 RG12 KG12 B12 D12 DX12 DD12 DG12
  have RA14:=hide (blk_range KA14.out)
  have RW14:=hide (blk_range KW14.out)
  have RX14:=hide (blk_range KX14.out)
  have RG14:=hide (blk_range KG14.out)
  clear c14
  go_wp2_with (first
    | (refine wpList_load_mid rfl 31 _ rfl w.heap.size 0 rfl cs _ RA14.out Tryz.underlying31 rfl IA.out ?_)
    | (refine wpList_load_mid rfl 36 _ rfl w5.heap.size 0 rfl cW _ RW14.out Tryz.underlying36 rfl IW.out ?_)
    | (refine wpList_load_mid rfl 44 _ rfl w7.heap.size 0 rfl cX _ RX14.out Tryz.underlying44 rfl IX.out ?_)
    | (refine wpList_load_mid rfl 36 _ rfl w10.heap.size 0 rfl cG _ RG14.out Tryz.underlying36 rfl IG.out ?_)
    | fail)
  refine (HD.out w14 B14.out).mono ?_
  rintro e w15 ⟨d15,rfl,o15,hb15⟩
  have r15:=o15.rd
  clear o15
  have KA15:=hide (KA14.out.below hb15 KA14.out.lt)
  have KW15:=hide (KW14.out.below hb15 KW14.out.lt)
  have KX15:=hide (KX14.out.below hb15 KX14.out.lt)
  have KG15:=hide (KG14.out.below hb15 KG14.out.lt)
  have B15:=hide (B14.out.trans (hb15.mono B14.out.size))
  have z15:=hide hb15.size
  have D15:=hide (D14.out.trans (hb15.mono D14.out.size))
  have DX15:=hide (DX14.out.kept (Kept.of_oth (Oth.of_below (S:=fun _=>False) hb15) (fun _ _ _ e=>e)))
  have DD15:=hide (DD14.out.kept (Kept.of_oth (Oth.of_below (S:=fun _=>False) hb15) (fun _ _ _ e=>e)))
  have DG15:=hide (DG14.out.kept (Kept.of_oth (Oth.of_below (S:=fun _=>False) hb15) (fun _ _ _ e=>e)))
  clear RA14 KA14 RW14 KW14 RX14 KX14 RG14 KG14 B14 D14 DX14 DD14 DG14 hb15
  have RA15:=hide (blk_range KA15.out)
  have RW15:=hide (blk_range KW15.out)
  have RX15:=hide (blk_range KX15.out)
  have RG15:=hide (blk_range KG15.out)
  have C16:=hide (HEd.out uD d15 w15 DD15.out.rd r15)
  clear r15 HEd
  go_wp2_with (first
    | (refine wpList_load_mid rfl 31 _ rfl w.heap.size 0 rfl cs _ RA15.out Tryz.underlying31 rfl IA.out ?_)
    | (refine wpList_load_mid rfl 36 _ rfl w5.heap.size 0 rfl cW _ RW15.out Tryz.underlying36 rfl IW.out ?_)
    | (refine wpList_load_mid rfl 44 _ rfl w7.heap.size 0 rfl cX _ RX15.out Tryz.underlying44 rfl IX.out ?_)
    | (refine wpList_load_mid rfl 36 _ rfl w10.heap.size 0 rfl cG _ RG15.out Tryz.underlying36 rfl IG.out ?_)
    | fail)
  refine C16.out.mono ?_
  rintro e w16 ⟨rfl,hb16⟩
  clear C16
  have KA16:=hide (KA15.out.below hb16 KA15.out.lt)
  have KW16:=hide (KW15.out.below hb16 KW15.out.lt)
  have KX16:=hide (KX15.out.below hb16 KX15.out.lt)
  have KG16:=hide (KG15.out.below hb16 KG15.out.lt)
  have B16:=hide (B15.out.trans (hb16.mono B15.out.size))
  have z16:=hide hb16.size
  have D16:=hide (D15.out.trans (hb16.mono D15.out.size))
  have DX16:=hide (DX15.out.kept (Kept.of_oth (Oth.of_below (S:=fun _=>False) hb16) (fun _ _ _ e=>e)))
  have DD16:=hide (DD15.out.kept (Kept.of_oth (Oth.of_below (S:=fun _=>False) hb16) (fun _ _ _ e=>e)))
  have DG16:=hide (DG15.out.kept (Kept.of_oth (Oth.of_below (S:=fun _=>False) hb16) (fun _ _ _ e=>e)))
  clear RA15 KA15 RW15 KW15 RX15 KX15 RG15 KG15 B15 D15 DX15 DD15 DG15 hb16
  have RA16:=hide (blk_range KA16.out)
  have RW16:=hide (blk_range KW16.out)
  have RX16:=hide (blk_range KX16.out)
  have RG16:=hide (blk_range KG16.out)
  have C17:=hide (HMx.out uX w6.heap.size w7.heap.size w16 DX16.out (Nat.le_of_lt KX16.out.lt))
  rw [ecX.out] at C17
  clear DX16 HMx
  go_wp2_with (first
    | (refine wpList_load_mid rfl 31 _ rfl w.heap.size 0 rfl cs _ RA16.out Tryz.underlying31 rfl IA.out ?_)
    | (refine wpList_load_mid rfl 36 _ rfl w5.heap.size 0 rfl cW _ RW16.out Tryz.underlying36 rfl IW.out ?_)
    | (refine wpList_load_mid rfl 44 _ rfl w7.heap.size 0 rfl cX _ RX16.out Tryz.underlying44 rfl IX.out ?_)
    | (refine wpList_load_mid rfl 36 _ rfl w10.heap.size 0 rfl cG _ RG16.out Tryz.underlying36 rfl IG.out ?_)
    | fail)
  refine C17.out.mono ?_
  rintro e w17 ⟨rfl,-,hO⟩
  have KA17:=hide (KA16.out.othM hO (by have:=z0z.out;have:=z2.out;have:=z3.out;have:=z4.out;have:=z5.out;have:=y6.out;have:=z6.out;have:=z7.out;have:=y8.out;have:=z8.out;have:=z9.out;have:=z10.out;have:=y11.out;have:=z11.out;have:=z12.out;have:=z14.out;have:=z15.out;have:=z16.out;omega))
  have KW17:=hide (KW16.out.othM hO (by have:=z0z.out;have:=z2.out;have:=z3.out;have:=z4.out;have:=z5.out;have:=y6.out;have:=z6.out;have:=z7.out;have:=y8.out;have:=z8.out;have:=z9.out;have:=z10.out;have:=y11.out;have:=z11.out;have:=z12.out;have:=z14.out;have:=z15.out;have:=z16.out;omega))
  have KX17:=hide (KX16.out.othM hO (by have:=z0z.out;have:=z2.out;have:=z3.out;have:=z4.out;have:=z5.out;have:=y6.out;have:=z6.out;have:=z7.out;have:=y8.out;have:=z8.out;have:=z9.out;have:=z10.out;have:=y11.out;have:=z11.out;have:=z12.out;have:=z14.out;have:=z15.out;have:=z16.out;omega))
  have KG17:=hide (KG16.out.othM hO (by have:=z0z.out;have:=z2.out;have:=z3.out;have:=z4.out;have:=z5.out;have:=y6.out;have:=z6.out;have:=z7.out;have:=y8.out;have:=z8.out;have:=z9.out;have:=z10.out;have:=y11.out;have:=z11.out;have:=z12.out;have:=z14.out;have:=z15.out;have:=z16.out;omega))
  have hm17:Below w6.heap.size w16 w17:=hO.below (fun k hk=>by have:=z0z.out;have:=z2.out;have:=z3.out;have:=z4.out;have:=z5.out;have:=y6.out;have:=z6.out;have:=z7.out;have:=y8.out;have:=z8.out;have:=z9.out;have:=z10.out;have:=y11.out;have:=z11.out;have:=z12.out;have:=z14.out;have:=z15.out;have:=z16.out;omega) D16.out.size
  have B17:=hide (B16.out.trans (hm17.mono (by have:=z0z.out;have:=z2.out;have:=z3.out;have:=z4.out;have:=z5.out;have:=y6.out;have:=z6.out;have:=z7.out;have:=y8.out;have:=z8.out;have:=z9.out;have:=z10.out;have:=y11.out;have:=z11.out;have:=z12.out;have:=z14.out;have:=z15.out;have:=z16.out;omega)))
  have D17:=hide (D16.out.trans hm17)
  have DD17:=hide (DD16.out.kept (Kept.of_oth hO (fun k h1 h2=>by have:=z0z.out;have:=z2.out;have:=z3.out;have:=z4.out;have:=z5.out;have:=y6.out;have:=z6.out;have:=z7.out;have:=y8.out;have:=z8.out;have:=z9.out;have:=z10.out;have:=y11.out;have:=z11.out;have:=z12.out;have:=z14.out;have:=z15.out;have:=z16.out;omega)))
  have DG17:=hide (DG16.out.kept (Kept.of_oth hO (fun k h1 h2=>by have:=z0z.out;have:=z2.out;have:=z3.out;have:=z4.out;have:=z5.out;have:=y6.out;have:=z6.out;have:=z7.out;have:=y8.out;have:=z8.out;have:=z9.out;have:=z10.out;have:=y11.out;have:=z11.out;have:=z12.out;have:=z14.out;have:=z15.out;have:=z16.out;omega)))
  have z17:=hide hO.size
  clear RA16 KA16 RW16 KW16 RX16 KX16 RG16 KG16 B16 D16 hm17 DD16 DG16
  have RA17:=hide (blk_range KA17.out)
  have RW17:=hide (blk_range KW17.out)
  have RX17:=hide (blk_range KX17.out)
  have RG17:=hide (blk_range KG17.out)
  clear hO C17
  have C18:=hide (HMd.out uD w8.heap.size w9.heap.size w17 DD17.out)
  clear DD17 HMd
  go_wp2_with (first
    | (refine wpList_load_mid rfl 31 _ rfl w.heap.size 0 rfl cs _ RA17.out Tryz.underlying31 rfl IA.out ?_)
    | (refine wpList_load_mid rfl 36 _ rfl w5.heap.size 0 rfl cW _ RW17.out Tryz.underlying36 rfl IW.out ?_)
    | (refine wpList_load_mid rfl 44 _ rfl w7.heap.size 0 rfl cX _ RX17.out Tryz.underlying44 rfl IX.out ?_)
    | (refine wpList_load_mid rfl 36 _ rfl w10.heap.size 0 rfl cG _ RG17.out Tryz.underlying36 rfl IG.out ?_)
    | fail)
  refine C18.out.mono ?_
  rintro e w18 ⟨rfl,-,hO⟩
  have KA18:=hide (KA17.out.othM hO (by have:=z0z.out;have:=z2.out;have:=z3.out;have:=z4.out;have:=z5.out;have:=y6.out;have:=z6.out;have:=z7.out;have:=y8.out;have:=z8.out;have:=z9.out;have:=z10.out;have:=y11.out;have:=z11.out;have:=z12.out;have:=z14.out;have:=z15.out;have:=z16.out;have:=z17.out;omega))
  have KW18:=hide (KW17.out.othM hO (by have:=z0z.out;have:=z2.out;have:=z3.out;have:=z4.out;have:=z5.out;have:=y6.out;have:=z6.out;have:=z7.out;have:=y8.out;have:=z8.out;have:=z9.out;have:=z10.out;have:=y11.out;have:=z11.out;have:=z12.out;have:=z14.out;have:=z15.out;have:=z16.out;have:=z17.out;omega))
  have KX18:=hide (KX17.out.othM hO (by have:=z0z.out;have:=z2.out;have:=z3.out;have:=z4.out;have:=z5.out;have:=y6.out;have:=z6.out;have:=z7.out;have:=y8.out;have:=z8.out;have:=z9.out;have:=z10.out;have:=y11.out;have:=z11.out;have:=z12.out;have:=z14.out;have:=z15.out;have:=z16.out;have:=z17.out;omega))
  have KG18:=hide (KG17.out.othM hO (by have:=z0z.out;have:=z2.out;have:=z3.out;have:=z4.out;have:=z5.out;have:=y6.out;have:=z6.out;have:=z7.out;have:=y8.out;have:=z8.out;have:=z9.out;have:=z10.out;have:=y11.out;have:=z11.out;have:=z12.out;have:=z14.out;have:=z15.out;have:=z16.out;have:=z17.out;omega))
  have hm18:Below w6.heap.size w17 w18:=hO.below (fun k hk=>by have:=z0z.out;have:=z2.out;have:=z3.out;have:=z4.out;have:=z5.out;have:=y6.out;have:=z6.out;have:=z7.out;have:=y8.out;have:=z8.out;have:=z9.out;have:=z10.out;have:=y11.out;have:=z11.out;have:=z12.out;have:=z14.out;have:=z15.out;have:=z16.out;have:=z17.out;omega) D17.out.size
  have B18:=hide (B17.out.trans (hm18.mono (by have:=z0z.out;have:=z2.out;have:=z3.out;have:=z4.out;have:=z5.out;have:=y6.out;have:=z6.out;have:=z7.out;have:=y8.out;have:=z8.out;have:=z9.out;have:=z10.out;have:=y11.out;have:=z11.out;have:=z12.out;have:=z14.out;have:=z15.out;have:=z16.out;have:=z17.out;omega)))
  have D18:=hide (D17.out.trans hm18)
  have DG18:=hide (DG17.out.kept (Kept.of_oth hO (fun k h1 h2=>by have:=z0z.out;have:=z2.out;have:=z3.out;have:=z4.out;have:=z5.out;have:=y6.out;have:=z6.out;have:=z7.out;have:=y8.out;have:=z8.out;have:=z9.out;have:=z10.out;have:=y11.out;have:=z11.out;have:=z12.out;have:=z14.out;have:=z15.out;have:=z16.out;have:=z17.out;omega)))
  have z18:=hide hO.size
  clear RA17 KA17 RW17 KW17 RX17 KX17 RG17 KG17 B17 D17 hm18 DG17
  have RA18:=hide (blk_range KA18.out)
  have RW18:=hide (blk_range KW18.out)
  have RX18:=hide (blk_range KX18.out)
  have RG18:=hide (blk_range KG18.out)
  clear hO C18
  have C19:=hide (HEr.out uG uW w18 DG18.out.rd (RW.out.below D18.out (Nat.le_refl _)))
  rw [ecG.out,ecW.out] at C19
  go_wp2_with (first
    | (refine wpList_load_mid rfl 31 _ rfl w.heap.size 0 rfl cs _ RA18.out Tryz.underlying31 rfl IA.out ?_)
    | (refine wpList_load_mid rfl 36 _ rfl w5.heap.size 0 rfl cW _ RW18.out Tryz.underlying36 rfl IW.out ?_)
    | (refine wpList_load_mid rfl 44 _ rfl w7.heap.size 0 rfl cX _ RX18.out Tryz.underlying44 rfl IX.out ?_)
    | (refine wpList_load_mid rfl 36 _ rfl w10.heap.size 0 rfl cG _ RG18.out Tryz.underlying36 rfl IG.out ?_)
    | (refine wpList_load_guard (by kernel_rfl) 36 _ rfl w5.heap.size 0 rfl cW _ RW18.out Tryz.underlying36 rfl IW.out ?_)
    | (refine wpList_load_guard (by kernel_rfl) 36 _ rfl w10.heap.size 0 rfl cG _ RG18.out Tryz.underlying36 rfl IG.out ?_)
    | fail)
  refine C19.out.mono ?_
  rintro e w19 ⟨rfl,hb19⟩
  have KA19:=hide (KA18.out.below hb19 KA18.out.lt)
  have KW19:=hide (KW18.out.below hb19 KW18.out.lt)
  have KX19:=hide (KX18.out.below hb19 KX18.out.lt)
  have KG19:=hide (KG18.out.below hb19 KG18.out.lt)
  have B19:=hide (B18.out.trans (hb19.mono B18.out.size))
  have z19:=hide hb19.size
  have D19:=hide (D18.out.trans (hb19.mono D18.out.size))
  have DG19:=hide (DG18.out.kept (Kept.of_oth (Oth.of_below (S:=fun _=>False) hb19) (fun _ _ _ e=>e)))
  clear RA18 KA18 RW18 KW18 RX18 KX18 RG18 KG18 B18 D18 DG18 hb19
  have RA19:=hide (blk_range KA19.out)
  have RW19:=hide (blk_range KW19.out)
  have RX19:=hide (blk_range KX19.out)
  have RG19:=hide (blk_range KG19.out)
  clear C19
  have C20:=hide (HMr.out uG w9.heap.size w10.heap.size w19 DG19.out)
  rw [ecG.out] at C20
  clear DG19 HMr
  go_wp2_with (first
    | (refine wpList_load_mid rfl 31 _ rfl w.heap.size 0 rfl cs _ RA19.out Tryz.underlying31 rfl IA.out ?_)
    | (refine wpList_load_mid rfl 36 _ rfl w5.heap.size 0 rfl cW _ RW19.out Tryz.underlying36 rfl IW.out ?_)
    | (refine wpList_load_mid rfl 44 _ rfl w7.heap.size 0 rfl cX _ RX19.out Tryz.underlying44 rfl IX.out ?_)
    | (refine wpList_load_mid rfl 36 _ rfl w10.heap.size 0 rfl cG _ RG19.out Tryz.underlying36 rfl IG.out ?_)
    | fail)
  refine C20.out.mono ?_
  rintro e w20 ⟨rfl,oM,hO⟩
  have KA20:=hide (KA19.out.othM hO (by have:=z0z.out;have:=z2.out;have:=z3.out;have:=z4.out;have:=z5.out;have:=y6.out;have:=z6.out;have:=z7.out;have:=y8.out;have:=z8.out;have:=z9.out;have:=z10.out;have:=y11.out;have:=z11.out;have:=z12.out;have:=z14.out;have:=z15.out;have:=z16.out;have:=z17.out;have:=z18.out;have:=z19.out;omega))
  have KW20:=hide (KW19.out.othM hO (by have:=z0z.out;have:=z2.out;have:=z3.out;have:=z4.out;have:=z5.out;have:=y6.out;have:=z6.out;have:=z7.out;have:=y8.out;have:=z8.out;have:=z9.out;have:=z10.out;have:=y11.out;have:=z11.out;have:=z12.out;have:=z14.out;have:=z15.out;have:=z16.out;have:=z17.out;have:=z18.out;have:=z19.out;omega))
  have KX20:=hide (KX19.out.othM hO (by have:=z0z.out;have:=z2.out;have:=z3.out;have:=z4.out;have:=z5.out;have:=y6.out;have:=z6.out;have:=z7.out;have:=y8.out;have:=z8.out;have:=z9.out;have:=z10.out;have:=y11.out;have:=z11.out;have:=z12.out;have:=z14.out;have:=z15.out;have:=z16.out;have:=z17.out;have:=z18.out;have:=z19.out;omega))
  have KG20:=hide (KG19.out.othM hO (by have:=z0z.out;have:=z2.out;have:=z3.out;have:=z4.out;have:=z5.out;have:=y6.out;have:=z6.out;have:=z7.out;have:=y8.out;have:=z8.out;have:=z9.out;have:=z10.out;have:=y11.out;have:=z11.out;have:=z12.out;have:=z14.out;have:=z15.out;have:=z16.out;have:=z17.out;have:=z18.out;have:=z19.out;omega))
  have hm20:Below w6.heap.size w19 w20:=hO.below (fun k hk=>by have:=z0z.out;have:=z2.out;have:=z3.out;have:=z4.out;have:=z5.out;have:=y6.out;have:=z6.out;have:=z7.out;have:=y8.out;have:=z8.out;have:=z9.out;have:=z10.out;have:=y11.out;have:=z11.out;have:=z12.out;have:=z14.out;have:=z15.out;have:=z16.out;have:=z17.out;have:=z18.out;have:=z19.out;omega) D19.out.size
  have B20:=hide (B19.out.trans (hm20.mono (by have:=z0z.out;have:=z2.out;have:=z3.out;have:=z4.out;have:=z5.out;have:=y6.out;have:=z6.out;have:=z7.out;have:=y8.out;have:=z8.out;have:=z9.out;have:=z10.out;have:=y11.out;have:=z11.out;have:=z12.out;have:=z14.out;have:=z15.out;have:=z16.out;have:=z17.out;have:=z18.out;have:=z19.out;omega)))
  have D20:=hide (D19.out.trans hm20)
  have z20:=hide hO.size
  clear RA19 KA19 RW19 KW19 RX19 KX19 RG19 KG19 B19 D19 hm20 
  have RA20:=hide (blk_range KA20.out)
  have RW20:=hide (blk_range KW20.out)
  have RX20:=hide (blk_range KX20.out)
  have RG20:=hide (blk_range KG20.out)
  have DM20:=hide oM.rd
  clear hO C20 oM
  have C21:=hide (HHr.out uG w20 DM20.out)
  rw [ecG.out] at C21
  go_wp2_with (first
    | (refine wpList_load_mid rfl 31 _ rfl w.heap.size 0 rfl cs _ RA20.out Tryz.underlying31 rfl IA.out ?_)
    | (refine wpList_load_mid rfl 36 _ rfl w5.heap.size 0 rfl cW _ RW20.out Tryz.underlying36 rfl IW.out ?_)
    | (refine wpList_load_mid rfl 44 _ rfl w7.heap.size 0 rfl cX _ RX20.out Tryz.underlying44 rfl IX.out ?_)
    | (refine wpList_load_mid rfl 36 _ rfl w10.heap.size 0 rfl cG _ RG20.out Tryz.underlying36 rfl IG.out ?_)
    | fail)
  refine C21.out.mono ?_
  rintro e w21 ⟨rfl,hb21⟩
  have KA21:=hide (KA20.out.below hb21 KA20.out.lt)
  have KW21:=hide (KW20.out.below hb21 KW20.out.lt)
  have KX21:=hide (KX20.out.below hb21 KX20.out.lt)
  have KG21:=hide (KG20.out.below hb21 KG20.out.lt)
  have B21:=hide (B20.out.trans (hb21.mono B20.out.size))
  have z21:=hide hb21.size
  have D21:=hide (D20.out.trans (hb21.mono D20.out.size))
  have DM21:=hide (DM20.out.below hb21 (Nat.le_refl _))
  clear RA20 KA20 RW20 KW20 RX20 KX20 RG20 KG20 B20 D20 DM20 hb21
  have RA21:=hide (blk_range KA21.out)
  have RW21:=hide (blk_range KW21.out)
  have RX21:=hide (blk_range KX21.out)
  have RG21:=hide (blk_range KG21.out)
  clear C21
  go_wp2_with (first
    | (refine wpList_load_mid rfl 31 _ rfl w.heap.size 0 rfl cs _ RA21.out Tryz.underlying31 rfl IA.out ?_)
    | (refine wpList_load_mid rfl 36 _ rfl w5.heap.size 0 rfl cW _ RW21.out Tryz.underlying36 rfl IW.out ?_)
    | (refine wpList_load_mid rfl 44 _ rfl w7.heap.size 0 rfl cX _ RX21.out Tryz.underlying44 rfl IX.out ?_)
    | (refine wpList_load_mid rfl 36 _ rfl w10.heap.size 0 rfl cG _ RG21.out Tryz.underlying36 rfl IG.out ?_)
    | fail)
  refine (HT.out w21 B21.out).mono ?_
  rintro e w22 ⟨u22,rfl,o22,hb22⟩
  have DT22:=hide o22.rd
  have KA22:=hide (KA21.out.below hb22 KA21.out.lt)
  have KW22:=hide (KW21.out.below hb22 KW21.out.lt)
  have KX22:=hide (KX21.out.below hb22 KX21.out.lt)
  have KG22:=hide (KG21.out.below hb22 KG21.out.lt)
  have B22:=hide (B21.out.trans (hb22.mono B21.out.size))
  have z22:=hide hb22.size
  have D22:=hide (D21.out.trans (hb22.mono D21.out.size))
  have DM22:=hide (DM21.out.below hb22 (Nat.le_refl _))
  clear RA21 KA21 RW21 KW21 RX21 KX21 RG21 KG21 B21 D21 DM21 hb22
  have RA22:=hide (blk_range KA22.out)
  have RW22:=hide (blk_range KW22.out)
  have RX22:=hide (blk_range KX22.out)
  have RG22:=hide (blk_range KG22.out)
  rw [show wdV z0 u22=.agg (wdC z0 u22).toArray from rfl]
  clear o22
  go_wp2_with (first
    | (refine wpList_load_mid rfl 31 _ rfl w.heap.size 0 rfl cs _ RA22.out Tryz.underlying31 rfl IA.out ?_)
    | (refine wpList_load_mid rfl 36 _ rfl w5.heap.size 0 rfl cW _ RW22.out Tryz.underlying36 rfl IW.out ?_)
    | (refine wpList_load_mid rfl 44 _ rfl w7.heap.size 0 rfl cX _ RX22.out Tryz.underlying44 rfl IX.out ?_)
    | (refine wpList_load_mid rfl 36 _ rfl w10.heap.size 0 rfl cG _ RG22.out Tryz.underlying36 rfl IG.out ?_)
    | fail)
  refine (HD.out w22 B22.out).mono ?_
  rintro e w23 ⟨d23,rfl,o23,hb23⟩
  have r23:=o23.rd
  clear o23
  have KA23:=hide (KA22.out.below hb23 KA22.out.lt)
  have KW23:=hide (KW22.out.below hb23 KW22.out.lt)
  have KX23:=hide (KX22.out.below hb23 KX22.out.lt)
  have KG23:=hide (KG22.out.below hb23 KG22.out.lt)
  have B23:=hide (B22.out.trans (hb23.mono B22.out.size))
  have z23:=hide hb23.size
  have D23:=hide (D22.out.trans (hb23.mono D22.out.size))
  have DM23:=hide (DM22.out.below hb23 (Nat.le_refl _))
  have DT23:=hide (DT22.out.below hb23 (Nat.le_refl _))
  clear RA22 KA22 RW22 KW22 RX22 KX22 RG22 KG22 B22 D22 DM22 DT22 hb23
  have RA23:=hide (blk_range KA23.out)
  have RW23:=hide (blk_range KW23.out)
  have RX23:=hide (blk_range KX23.out)
  have RG23:=hide (blk_range KG23.out)
  have C24:=hide (HI.out u22 d23 w23 B23.out DT23.out r23)
  rw [show wdV z0 u22=.agg (wdC z0 u22).toArray from rfl] at C24
  clear r23 DT23
  generalize wdC z0 u22=c22 at C24 ⊢
  go_wp2_with (first
    | (refine wpList_load_mid rfl 31 _ rfl w.heap.size 0 rfl cs _ RA23.out Tryz.underlying31 rfl IA.out ?_)
    | (refine wpList_load_mid rfl 36 _ rfl w5.heap.size 0 rfl cW _ RW23.out Tryz.underlying36 rfl IW.out ?_)
    | (refine wpList_load_mid rfl 44 _ rfl w7.heap.size 0 rfl cX _ RX23.out Tryz.underlying44 rfl IX.out ?_)
    | (refine wpList_load_mid rfl 36 _ rfl w10.heap.size 0 rfl cG _ RG23.out Tryz.underlying36 rfl IG.out ?_)
    | fail)
  refine C24.out.mono ?_
  rintro e w24 ⟨uH,rfl,oH,hb24⟩
  have DH24:=hide oH.ox
  clear C24
  have KA24:=hide (KA23.out.below hb24 KA23.out.lt)
  have KW24:=hide (KW23.out.below hb24 KW23.out.lt)
  have KX24:=hide (KX23.out.below hb24 KX23.out.lt)
  have KG24:=hide (KG23.out.below hb24 KG23.out.lt)
  have B24:=hide (B23.out.trans (hb24.mono B23.out.size))
  have z24:=hide hb24.size
  have D24:=hide (D23.out.trans (hb24.mono D23.out.size))
  have DM24:=hide (DM23.out.below hb24 (Nat.le_refl _))
  clear RA23 KA23 RW23 KW23 RX23 KX23 RG23 KG23 B23 D23 DM23 hb24
  have RA24:=hide (blk_range KA24.out)
  have RW24:=hide (blk_range KW24.out)
  have RX24:=hide (blk_range KX24.out)
  have RG24:=hide (blk_range KG24.out)
  obtain ⟨cH,hcH⟩:∃ c,ldC QE uH=c:=⟨_,rfl⟩
  have ecH:=hide (show lgV QE uH=.agg cH.toArray from by rw [<- hcH];rfl)
  rw [ecH.out]
  have bz24:Blk (w24.alloc (.cells #[.int .i64 0,.slice none 0 0] 36)) w24.heap.size 36 [.int .i64 0,.slice none 0 0]:=Blk.new w24 _ _
  have oneH:=hide (show cH.toArray.all (·.oneCell')=true from by rw [List.all_toArray,<- hcH];exact ldC_one oH.rd)
  have IH:=hide (show (Tryz.prog.info? 36).map (·.size)=some cH.length from by rw [<- hcH];exact Tryz.infoLd)
  have HtH:=hide (show (w24.alloc (.cells #[.int .i64 0,.slice none 0 0] 36)).there w24.heap.size 0 cH.toArray.size from bz24.there (by rw [List.size_toArray,<- hcH];rfl))
  obtain ⟨w25,hw25⟩:∃ x,(w24.alloc (.cells #[.int .i64 0,.slice none 0 0] 36)).setCells w24.heap.size 0 cH=x:=⟨_,rfl⟩
  have KH25:=hide (show Blk w25 w24.heap.size 36 cH from by rw [<- hw25];exact blk_all bz24 (by rw [<- hcH];rfl))
  have hb25:Below w24.heap.size w24 w25:=by rw [<- hw25];exact ((Below.refl _ w24).alloc (Nat.le_refl _) _).trans (putC_below (Nat.le_refl _) _ _ _)
  have Hw25:=hide hw25
  have y25:=hide (KH25.out.lt)
  clear bz24 hw25
  have KA25:=hide (KA24.out.below hb25 KA24.out.lt)
  have KW25:=hide (KW24.out.below hb25 KW24.out.lt)
  have KX25:=hide (KX24.out.below hb25 KX24.out.lt)
  have KG25:=hide (KG24.out.below hb25 KG24.out.lt)
  have B25:=hide (B24.out.trans (hb25.mono B24.out.size))
  have z25:=hide hb25.size
  have D25:=hide (D24.out.trans (hb25.mono D24.out.size))
  have DM25:=hide (DM24.out.below hb25 (Nat.le_refl _))
  have DH25:=hide (DH24.out.kept (Kept.of_oth (Oth.of_below (S:=fun _=>False) hb25) (fun _ _ _ e=>e)))
  clear RA24 KA24 RW24 KW24 RX24 KX24 RG24 KG24 B24 D24 DM24 DH24 hb25
  have RA25:=hide (blk_range KA25.out)
  have RW25:=hide (blk_range KW25.out)
  have RX25:=hide (blk_range KX25.out)
  have RG25:=hide (blk_range KG25.out)
  have RH25:=hide (blk_range KH25.out)
  have C26:=hide (HEr.out uH uW w25 DH25.out.rd (RW.out.below D25.out (Nat.le_refl _)))
  rw [ecH.out,ecW.out] at C26
  clear oH hcH DH25
  go_wp2_with (first
    | (refine wpList_load_mid rfl 31 _ rfl w.heap.size 0 rfl cs _ RA25.out Tryz.underlying31 rfl IA.out ?_)
    | (refine wpList_load_mid rfl 36 _ rfl w5.heap.size 0 rfl cW _ RW25.out Tryz.underlying36 rfl IW.out ?_)
    | (refine wpList_load_mid rfl 44 _ rfl w7.heap.size 0 rfl cX _ RX25.out Tryz.underlying44 rfl IX.out ?_)
    | (refine wpList_load_mid rfl 36 _ rfl w10.heap.size 0 rfl cG _ RG25.out Tryz.underlying36 rfl IG.out ?_)
    | (refine wpList_load_mid rfl 36 _ rfl w24.heap.size 0 rfl cH _ RH25.out Tryz.underlying36 rfl IH.out ?_)
    | (refine wpList_store_mid rfl 36 _ _ rfl w24.heap.size 0 cH.toArray rfl rfl HtH.out (by simpa using IH.out) oneH.out ?_;rw [Hw25.out])
    | fail)
  refine C26.out.mono ?_
  rintro e w26 ⟨rfl,hb26⟩
  have KA26:=hide (KA25.out.below hb26 KA25.out.lt)
  have KW26:=hide (KW25.out.below hb26 KW25.out.lt)
  have KX26:=hide (KX25.out.below hb26 KX25.out.lt)
  have KG26:=hide (KG25.out.below hb26 KG25.out.lt)
  have KH26:=hide (KH25.out.below hb26 KH25.out.lt)
  have B26:=hide (B25.out.trans (hb26.mono B25.out.size))
  have z26:=hide hb26.size
  have D26:=hide (D25.out.trans (hb26.mono D25.out.size))
  have DM26:=hide (DM25.out.below hb26 (Nat.le_refl _))
  clear RA25 KA25 RW25 KW25 RX25 KX25 RG25 KG25 RH25 KH25 B25 D25 DM25 hb26
  have RA26:=hide (blk_range KA26.out)
  have RW26:=hide (blk_range KW26.out)
  have RX26:=hide (blk_range KX26.out)
  have RG26:=hide (blk_range KG26.out)
  have RH26:=hide (blk_range KH26.out)
  clear C26 oneH HtH Hw25
  have C27:=hide (HHr.out uG w26 DM26.out)
  rw [ecG.out] at C27
  go_wp2_with (first
    | (refine wpList_load_mid rfl 31 _ rfl w.heap.size 0 rfl cs _ RA26.out Tryz.underlying31 rfl IA.out ?_)
    | (refine wpList_load_mid rfl 36 _ rfl w5.heap.size 0 rfl cW _ RW26.out Tryz.underlying36 rfl IW.out ?_)
    | (refine wpList_load_mid rfl 44 _ rfl w7.heap.size 0 rfl cX _ RX26.out Tryz.underlying44 rfl IX.out ?_)
    | (refine wpList_load_mid rfl 36 _ rfl w10.heap.size 0 rfl cG _ RG26.out Tryz.underlying36 rfl IG.out ?_)
    | (refine wpList_load_mid rfl 36 _ rfl w24.heap.size 0 rfl cH _ RH26.out Tryz.underlying36 rfl IH.out ?_)
    | fail)
  refine C27.out.mono ?_
  rintro e w27 ⟨rfl,hb27⟩
  have B27:=hide (B26.out.trans (hb27.mono B26.out.size))
  clear hb27
  go_wp2
  go_ret
  exact ⟨rfl,B27.out⟩
theorem fnExactFold_met (os:Os) (args:Array Value):laidMetH Tryz.prog Rows.fnExactFoldRow.laid ((laidOn (World.holding Tryz.prog os ⟨#[],#[],[]⟩)).forCall (fun _ _=>0) ⟨#[],args,[]⟩).memory :=
  laidMetH_of_parts (laidMet_nil _ _) (by kernel_rfl)
theorem fnExactFold_gh {W:World} (h:laidMetH Tryz.prog Rows.fnExactFoldRow.laid W):Gh W:=by
  have h':laidMet Tryz.prog [] W/\handlesMet Tryz.prog Rows.fnExactFoldRow.laid W:=h
  exact gh_of_handles h'.2
theorem fnExactFold_lifted (os:Os) (started:os.Started) (H:Type) (enc:TypeId × Value->H) :
    ReturnsInHanded {} Tryz.checked os 3 .any (fun w args=>(Rows.fnExactFoldSpec.pre enc Tryz.prog Tryz.f3 [] false w args/\laidMetH Tryz.prog Rows.fnExactFoldRow.laid w)/\sizedMet enc Tryz.prog Tryz.f3 (OpenSpec.ofChange Rows.fnExactFoldSpec) false w args)
      (Rows.fnExactFoldSpec.post enc Tryz.prog Tryz.f3 false true false false):=by
  refine returnsInHanded_of_change_and (C:=Tryz.checked) (X:=fun w _=>laidMetH Tryz.prog Rows.fnExactFoldRow.laid w) (fun _ _ _ hh h=>h.of_heap hh) fnExactFold_own started (by kernel_rfl) Tryz.func3
    (ChangeSpec.witness_at (enc:=enc) (C:=Tryz.checked) (os:=os) (X:=fun w _=>laidMetH Tryz.prog Rows.fnExactFoldRow.laid w) false (laidOn (World.holding Tryz.prog os ⟨#[],#[],[]⟩)) #[.agg #[.int .i64 0,.slice none 0 0,.slice none 0 0,.slice none 0 0,.slice none 0 0,.slice none 0 0,.slice none 0 0],.slice none 0 0] 8 rfl (by kernel_rfl) (by kernel_rfl) (by kernel_rfl) (by kernel_rfl) (by kernel_rfl) (fnExactFold_met os _)) ?_
  intro W base args ds gs before hval0 hW _ _ hL _
  have hval:∀ (j:Nat) t v,Tryz.f3.params[j]?=some t->args[j]?=some v->Value.okWide Tryz.prog W .any base t v:=hval0
  have hW':=hW
  obtain ⟨p,q,hA0,hV0,rfl,hfz,hnd⟩:=hW
  have hV:DataW.TrodVars enc Tryz.prog W (fun _=>true) [] gs q:=hV0
  obtain ⟨rfl,rfl⟩:gs=[]/\q=[]:=by
    cases gs with
    | nil=>exact ⟨rfl,hV⟩
    | cons g r=>exact absurd hV (by intro h;cases h)
  have hA:DataW.TrodAll enc Tryz.prog W 0 (fun _=>true) true Tryz.f3.params.toList args.toList ds p:=hA0
  rw [Tryz.params3] at hA hval
  obtain ⟨v0,vs0,d0,ds0,p0,q0,hargs,rfl,rfl,h0,r0⟩:=trodAll_cons hA
  obtain ⟨v1,vs1,d1,ds1,p1,q1,rfl,rfl,rfl,h1,r1⟩:=trodAll_cons r0
  obtain ⟨rfl,rfl,rfl⟩:=trodAll_nil r1
  obtain rfl:args=#[v0,v1]:=by cases args;simp_all
  have k0:=h0
  have lt0:∀ x ∈ p0,x.block < W.heap.size:=by obtain ⟨m,hm⟩:=k0;exact DataW.trod_lt m _ _ _ hm
  obtain ⟨z0,y0,rfl,w0⟩:∃ (m:Wd) (v:Wv),v0=wdV m v/\RdWd W m v/\FitWd m:=by
    obtain ⟨cs,rfl,hsz⟩:=okWide_struct Tryz.underlying31 (hval 0 31 _ rfl rfl)
    obtain ⟨fuel,hf⟩:=h0
    obtain ⟨m,v,q,rest⟩:=open_Wd (by simpa [Value.cells] using hf)
    exact ⟨m,v,by cases cs;simp at q;subst q;rfl,rest⟩
  have k1:=h1
  have lt1:∀ x ∈ p1,x.block < W.heap.size:=by obtain ⟨m,hm⟩:=k1;exact DataW.trod_lt m _ _ _ hm
  obtain ⟨a1,len1,cap1,rfl⟩:=okWide_slice Tryz.underlying32 (hval 1 32 v1 rfl rfl)
  obtain ⟨z1,w1⟩:∃ l:List Int,RdI W (.slice a1 len1 cap1) l:=by
    obtain ⟨fuel,hf⟩:=h1
    obtain ⟨v,l,e,r,_⟩:=open_intsC (by simpa [Value.cells] using hf)
    obtain rfl:Value.slice a1 len1 cap1=v:=by simpa using e
    exact ⟨l,r⟩
  clear hA0 hval0
  refine (fnExactFold_walk z0 y0 a1 len1 cap1 z1 W (fnExactFold_gh hL) w0 w1).mono fun e W' ⟨he,bel⟩=>?_
  subst he
  exact ⟨_,rfl,_,_,_,[],_,[],hW',trodAll_mk1 (shut_bool Tryz.underlying4 _),(trodAll_cons_mk (Below.trod fnExactFold_laidOut (by kernel_rfl) (of_decide_eq_true (by kernel_rfl)) k0 bel lt0) (trodAll_cons_mk (Below.trod fnExactFold_laidOut (by kernel_rfl) (of_decide_eq_true (by kernel_rfl)) k1 bel lt1) trodAll_mk0)),rfl,bel.frame _,fun h=>by cases h⟩
theorem fnExactFold_holds:Rows.FnExactFoldSaid :=
  OpenClaim.holds_of_wide 3 Tryz.f3 rfl rfl rfl rfl rfl rfl rfl ⟨rfl,rfl,rfl,rfl,rfl⟩ rfl rfl rfl rfl rfl (by kernel_rfl) Tryz.func3 (by kernel_rfl)
    (of_decide_eq_true (by kernel_rfl)) (by unfold Func.isWrapper;first | (rw [if_pos (by decide +kernel)];kernel_rfl) | (rw [if_neg (by decide +kernel)];exact ⟨rfl,rfl⟩))
    (fun os started H enc _=>fnExactFold_lifted os started H enc)
theorem fnExactFold_card:Rows.FnExactFoldCardSaid :=
  Claim7.holds_tied_plain_at .later [] [.handle] true Rows.fnExactFoldCard.stood.harness true
    fnExactFold_holds (fun _ h=>by cases h) (by kernel_rfl) (fun _ h=>by cases h) fnExactFold_row_tie rfl ⟨rfl,rfl⟩ (by kernel_rfl) rfl
    (fun f fn hf hfn=>by
      obtain rfl:f=3:=Option.some.inj ((show Tryz.prog.funcNamed Rows.fnExactFoldRow.func=some 3 by kernel_rfl).symm.trans hf) |>.symm
      obtain rfl:fn=Tryz.f3:=(Option.some.inj (Tryz.func3.symm.trans hfn)).symm
      exact ⟨by kernel_rfl,fun j t ht=>by
        rw [Tryz.params3] at ht
        have hm:t ∈ [31,32]:=by simpa using Array.mem_of_getElem? ht
        have hall:([31,32].all fun u=>!Tryz.prog.wantsStandIn u)=true:=by kernel_rfl
        exact (show Tryz.prog.wantsStandIn t=false by simpa using List.all_eq_true.1 hall t hm)⟩)
    (by kernel_rfl)
end Go.Proofs.YthehfkafcdociaaGreatDoor
