/- Quorums, on both sides, where the weights are small. -/
import Derived.Test.YtohachldbpejpaaGreatDoorZoDrawFt
set_option maxRecDepth 20000
set_option maxHeartbeats 4000000
namespace Go.Proofs.YtohachldbpejpaaGreatDoor
open Go.RowKit
set_option linter.unusedVariables false
theorem drawLedger_any (w:World) (cv:Value) (code:List UInt8) (hr:RdB w cv code) (hl:code.length<=1048576) :
    Calls Tryz.prog 9 #[cv] w fun en w'=>∃ (e:Int) (u:Value) (z:List Ac) (x:Value) (ts:List Tx5),en=.returned (.tuple #[lgV e u,x])/\RdA w' u z/\FwA z/\lgB e z=true/\RdT w' x ts/\ts.length<=10/\(∀ x ∈ ts,x.2.1.size<=9/\x.2.2.1.size<=9)/\Below w.heap.size w w':=by
  obtain ⟨w1,hw1⟩:∃ w1,w.alloc (.cells #[.int .i64 0,.slice none 0 0] 26)=w1:=⟨_,rfl⟩
  have b1:Below w.heap.size w w1:=by rw [<- hw1];exact (Below.refl _ w).alloc (Nat.le_refl _) _
  have k1:Blk w1 w.heap.size 26 [.int .i64 0,.slice none 0 0]:=by rw [<- hw1];exact Blk.new w _ _
  have s1:w1.heap.size=w.heap.size+1:=by rw [<- hw1];simp
  have hr1:=hr.below b1 (Nat.le_refl _)
  have HN:=hide (l1New_any w1 cv code hr1 hl)
  obtain ⟨a,c,rfl⟩:∃ a c,cv=.slice a code.length c:=by
    rcases hr with ⟨a,c,h1,h2,-⟩ | ⟨b,off,c,h0,h1,_⟩
    · subst h2;exact ⟨a,c,h1⟩
    · exact ⟨_,c,h1⟩
  have K1:=hide k1
  have B1:=hide b1
  have S1:=hide s1
  clear hr hr1 k1 b1 s1
  go_enter Tryz.func9,Tryz.ntmps9
  go_wp2_with fail
  refine HN.out.mono ?_
  rintro en w2 ⟨rfl,hc2,hb2⟩
  have hgl:w1.heap.size < w2.heap.size:=hc2.lt
  have K2:=hide (K1.out.below hb2 K1.out.lt)
  clear hw1 HN K1 hb2
  go_wp2_with fail
  refine (l6DrawR_any w1 w2 w1.heap.size _ code hc2 hl).mono ?_
  rintro en w3 ⟨e,u,Z,rfl,hd3,hs3,hlg,hc3,hg3⟩
  unfold lgV
  obtain ⟨⟨GA,zc,rfl⟩,-⟩:=id hd3
  have z3:=hg3.size
  obtain ⟨w4,hw4⟩:∃ x,w3.alloc (.cells #[.int .i64 e,.slice (some ⟨GA,0,none⟩) Z.length zc] 26)=x:=⟨_,rfl⟩
  have b4:Below w3.heap.size w3 w4:=by rw [<- hw4];exact (Below.refl _ w3).alloc (Nat.le_refl _) _
  have g4:Blk w4 w3.heap.size 26 [.int .i64 e,.slice (some ⟨GA,0,none⟩) Z.length zc]:=by rw [<- hw4];exact Blk.new w3 _ _
  have s1:=S1.out
  have R4:=hide ((blk_notg5 K2.out hg3 (by omega)).below b4 (by omega))
  have G4:=hide g4
  have D4:=hide (hd3.below b4 (Nat.le_refl _))
  have C4:=hide (hc3.below b4 hc3.lt)
  have HFw:Hid (FwA (Z.map (·.1))):=hide ⟨by have:=hs3.1;simp;omega,fun a ha=>by obtain ⟨q,hq,rfl⟩:=List.mem_map.1 ha;have:=hs3.2 q hq;omega⟩
  have Hlg:=hide hlg
  have HS:Hid (∀ W,w4.grownBy W (some w1.heap.size)->(W.cell? ⟨w3.heap.size,0,none⟩=some (.int .i64 e)/\W.cell? ⟨w3.heap.size,1,none⟩=some (.slice (some ⟨GA,0,none⟩) Z.length zc))):=hide (fun W hW=>by
    have a1:=blk_notg5 G4.out hW (by omega)
    exact ⟨a1.cell 0,a1.cell 1⟩)
  have HX:Hid (∀ W,Cur w1 W w1.heap.size (.slice a code.length c) code->Sty w1.heap.size W (.slice (some ⟨GA,0,none⟩) Z.length zc) (Z.map (fun q:Ac × Value=>q.1))->Calls Tryz.prog 48 #[.pointer (some ⟨w1.heap.size,0,none⟩),.agg #[.int .i64 e,.slice (some ⟨GA,0,none⟩) Z.length zc],.int .i64 10] W fun en w'=>DrO w1 W w1.heap.size (.slice a code.length c) code 10 en w'):=hide (fun W hC hs=>l6Txs_any w1 W w1.heap.size _ code e (.slice (some ⟨GA,0,none⟩) Z.length zc) (Z.map (fun q:Ac × Value=>q.1)) 10 hC hl hs HFw.out (by omega))
  have gD:w4.grownBy w4.drew (some w1.heap.size):=⟨rfl,rfl,rfl,Nat.le_refl _,fun _ _ _=>rfl⟩
  have cD:Cur w1 w4.drew w1.heap.size (.slice a code.length c) code:=C4.out.drew
  have sD:Sty w1.heap.size w4.drew (.slice (some ⟨GA,0,none⟩) Z.length zc) (Z.map (fun q:Ac × Value=>q.1)):=(D4.out.notg gD hgl).sty hgl
  have hS0:=HS.out _ gD
  have z4:w.heap.size < w4.drew.heap.size:=by have:=cD.lt;omega
  have HSZ:Hid (w1.heap.size < w3.heap.size):=hide (by omega)
  clear hd3 hs3 hc2 hc3 hg3 b4 g4 K2 hlg z3 s1
  go_wp2
  (try rw [hw4])
  go_region_held_law (fun w'=>w'.cell? ⟨w3.heap.size,0,none⟩=some (.int .i64 e)/\w'.cell? ⟨w3.heap.size,1,none⟩=some (.slice (some ⟨GA,0,none⟩) Z.length zc)) (first | with_reducible exact hS0 | with_reducible exact hS2 | with_reducible exact hS3 | with_reducible exact hS4) ((go_at_call 48;(with_reducible refine (HX.out w4.drew cD sD).mono ?_);rintro en w9 ⟨v2,ts,rfl,o2,h4,h9,c2,g12⟩;obtain ⟨a2,cc2,hv2⟩:=o2.rd.shape;subst hv2;have g2:=grw_trans gD g12;have hS2:=HS.out _ g2;have R9:=hide (blk_notg5 R4.out g2 (by have:=S1.out;omega));have G9:=hide (blk_notg5 G4.out g2 (by have:=HSZ.out;omega));have D9:=hide (D4.out.notg g2 hgl);have O9:=hide o2;have p0:=R9.out.cell 0;have p1:=R9.out.cell 1;have f0:=R9.out.frozen 0;have f1:=R9.out.frozen 1;simp only [List.getElem?_cons_zero,List.getElem?_cons_succ] at p0 p1;have hne9:w3.heap.size ≠ w.heap.size:=(by have:=HSZ.out;have:=S1.out;omega);have k3:=G9.out.setOther (b:=w.heap.size) 0 (.int .i64 e) hne9;have hS3:(w9.setCell ⟨w.heap.size,0,none⟩ (.int .i64 e)).cell? ⟨w3.heap.size,0,none⟩=some (.int .i64 e)/\(w9.setCell ⟨w.heap.size,0,none⟩ (.int .i64 e)).cell? ⟨w3.heap.size,1,none⟩=some (.slice (some ⟨GA,0,none⟩) Z.length zc):=⟨k3.cell 0,k3.cell 1⟩;have k4:=k3.setOther (b:=w.heap.size) 1 (.slice (some ⟨GA,0,none⟩) Z.length zc) hne9;have hS4:((w9.setCell ⟨w.heap.size,0,none⟩ (.int .i64 e)).setCell ⟨w.heap.size,1,none⟩ (.slice (some ⟨GA,0,none⟩) Z.length zc)).cell? ⟨w3.heap.size,0,none⟩=some (.int .i64 e)/\((w9.setCell ⟨w.heap.size,0,none⟩ (.int .i64 e)).setCell ⟨w.heap.size,1,none⟩ (.slice (some ⟨GA,0,none⟩) Z.length zc)).cell? ⟨w3.heap.size,1,none⟩=some (.slice (some ⟨GA,0,none⟩) Z.length zc):=⟨k4.cell 0,k4.cell 1⟩))
  have hwb:w.heap.size < w2.heap.size:=by have:=S1.out;omega
  have gs0:=grown_set w9 w.heap.size 0 (.int .i64 e)
  have gs1:=grown_set (w9.setCell ⟨w.heap.size,0,none⟩ (.int .i64 e)) w.heap.size 1 (.slice (some ⟨GA,0,none⟩) Z.length zc)
  have HDX:=hide ((D9.out.notg gs0 hwb).notg gs1 hwb).rd
  have HTX:=hide ((O9.out.notg gs0 z4).notg gs1 z4).rd
  have HBX:=hide (((B1.out.trans (c2.bel.mono B1.out.size)).setCell (p:=⟨w.heap.size,0,none⟩) (Nat.le_refl _) (.int .i64 e)).setCell (p:=⟨w.heap.size,1,none⟩) (Nat.le_refl _) (.slice (some ⟨GA,0,none⟩) Z.length zc))
  have H8:=hide h4
  have H9:=hide h9
  clear R9 G9 D9 O9 hS0 hS2 hS3 hS4 o2 h4 h9 k3 k4 gs0 gs1 c2 hw4
  go_wp2
  refine bodyPost_ret (v:=.tuple #[.agg #[.int .i64 e,.slice (some ⟨GA,0,none⟩) Z.length zc],.slice a2 ts.length cc2]) (by simp [results,Tryz.f9,go_sem,p0,p1]) rfl ?_
  exact ⟨e,_,_,_,ts,rfl,HDX.out,HFw.out,Hlg.out,HTX.out,H8.out,H9.out,HBX.out⟩
def szR (ls:List ByteArray) (m:Nat):Int:=if ls.length+tot ls<=m then (m:Int) - ls.length - tot ls else -1
def RdI (w:World) (v:Value) (l:List Int):Prop :=
  (∃ a cap,v=.slice a 0 cap/\l=[]/\(a=none->cap=0)) \/
  ∃ b off cap,l ≠ []/\v=.slice (some ⟨b,off,none⟩) l.length cap/\l.length<=cap/\cap<=maxLen/\b < w.heap.size/\∀ i (h:i < l.length),w.cell? ⟨b,off+i,none⟩=some (.int .i64 l[i])
def OwnI (base:Nat) (w:World) (v:Value) (l:List Int):Prop:=w.ownsRow base 3 1 v l.length (l.map (Value.int .i64))
def tcV (r:Int) (vw vh:Value):Value:=.agg #[.int .i64 r,vw,vh]
def highI (hs:List Int):Int:=hs.foldl (fun n x=>if n < x then x else n) 0
def sumV (f:Vl->Int) (l:List Vl):Int:=l.foldl (fun s p=>wrap64 (s+f p)) 0
def hasN (ns:List ByteArray) (s:ByteArray):Bool:=ns.any (fun t=>decide (t=s))
def wtN (ns:List ByteArray) (p:Vl):Int:=if hasN ns p.1=true then p.2 else 0
def weightV (l:List Vl) (ns:List ByteArray):Int:=sumV (wtN ns) l
def totalV (l:List Vl):Int:=sumV (·.2) l
def leadV (l:List Vl) (r:Int):ByteArray:=if l.length=0\/r < 0 then ByteArray.empty else (l.getD (r.toNat % l.length) (ByteArray.empty,0)).1
end Go.Proofs.YtohachldbpejpaaGreatDoor
