/- A row of texts and a row of numbers that lie in the same place, marked one behind the other. -/
import Derived.Test.YthidkbhiikdokaaGreatZwVtMark
set_option maxRecDepth 20000
namespace Go.Proofs.YthidkbhiikdokaaGreat
open Go.RowKit Go.Sort
set_option linter.unusedVariables false
def Mkd (k lo hi:Nat) (P:World->Prop) (w:World) (e:Ending) (w':World):Prop:=e=.returned (.int .i64 (k:Int))/\P w'/\Oth (fun x=>lo<=x/\x < hi) w w'
theorem oth_row {base hi sz n:Nat} {T:TypeId} {v:Value} {xs:List Value} {w w':World} (ho:w.ownsRow base T sz v n xs) (ht:Top hi v) (hg:w.grownBy w' v.ownBlock):Oth (fun x=>base<=x/\x < hi) w w' :=
  Oth.of_grown hg (fun k e=>⟨(World.ownsRow.lt ho k e).1,ht k e⟩)
theorem oth_row2 {base hi sz n:Nat} {T:TypeId} {v:Value} {xs:List Value} {w w':World} (ho:w.ownsRow base T sz v n xs) (ht:Top hi v) (hg:Oth (fun g=>v.ownBlock=some g) w w'):Oth (fun x=>base<=x/\x < hi) w w' :=
  hg.mono (fun k e=>⟨(World.ownsRow.lt ho k e).1,ht k e⟩)
theorem oth_btw {lo hi:Nat} {w w':World} (h:Btw lo hi w w'):Oth (fun x=>lo<=x/\x < hi) w w':=⟨h.os,h.tape,h.output,h.size,fun k hk hn=>h.block k hk (by omega)⟩
theorem mkuStr (v:Value) (l:List ByteArray) (k lo hi:Nat) (w:World) (ho:InS lo hi w v l) (hl:l.length<=4000000) (hk:k+l.length<=40000000) (hk0:0 < k) :
    Calls Tryz.prog 14 #[v,.int .i64 (k:Int)] w (Mkd (k+l.length) lo hi (fun w'=>InS lo hi w' v (mkS k l.length)) w):=by
  refine (markStringS_any v l k lo w ho.1 (by omega) (by omega) hk0).mono ?_
  rintro e w' ⟨h1,h2,h3⟩
  exact ⟨h1,⟨h2,ho.2⟩,oth_row ho.1 ho.2 h3⟩
theorem mkuInt (v:Value) (l:List Int) (k lo hi:Nat) (w:World) (ho:InI lo hi w v l) (hl:l.length<=4000000) (hk:k+l.length<=40000000) (hk0:0 < k) :
    Calls Tryz.prog 67 #[v,.int .i64 (k:Int)] w (Mkd (k+l.length) lo hi (fun w'=>InI lo hi w' v (mkI k l.length)) w):=by
  refine (markIntS_any v l k lo w ho.1 (by omega) (by omega) hk0).mono ?_
  rintro e w' ⟨h1,h2,h3⟩
  exact ⟨h1,⟨h2,ho.2⟩,oth_row ho.1 ho.2 h3⟩
theorem mkuVal (v:Value) (l:List Vl) (k lo hi:Nat) (w:World) (ho:InV lo hi w v l) (hl:l.length<=4000000) (hk:k+2 * l.length<=40000000) (hk0:0 < k) :
    Calls Tryz.prog 66 #[v,.int .i64 (k:Int)] w (Mkd (k+2 * l.length) lo hi (fun w'=>InV lo hi w' v (mkV k l.length)) w):=by
  refine (markValS_any v l k lo w ho.1 (by omega) (by omega) hk0).mono ?_
  rintro e w' ⟨h1,h2,h3⟩
  exact ⟨h1,⟨h2,ho.2⟩,oth_row ho.1 ho.2 h3⟩
theorem mkuTx (v:Value) (l:List Tx5) (k lo hi:Nat) (w:World) (ho:InT lo hi w v l) (hl:l.length<=4000000) (hk:k+5 * l.length<=40000000) (hk0:0 < k) :
    Calls Tryz.prog 70 #[v,.int .i64 (k:Int)] w (Mkd (k+5 * l.length) lo hi (fun w'=>InT lo hi w' v (mkT k l.length)) w):=by
  refine (markTxC_any v l k lo w ho.1 (by omega) (by omega) hk0).mono ?_
  rintro e w' ⟨h1,h2,h3⟩
  exact ⟨h1,⟨h2,ho.2⟩,oth_row2 ho.1 ho.2 h3⟩
theorem mkuVote (v:Value) (l:List Tr) (k lo hi:Nat) (w:World) (ho:InR 100 lo hi w v l) (hl:l.length<=4000000) (hk:k+3 * l.length<=40000000) (hk0:0 < k) :
    Calls Tryz.prog 68 #[v,.int .i64 (k:Int)] w (Mkd (k+3 * l.length) lo hi (fun w'=>InR 100 lo hi w' v (mkR k l.length)) w):=by
  refine (markVoteS_any v l k lo w ho.1 (by omega) (by omega) hk0).mono ?_
  rintro e w' ⟨h1,h2,h3⟩
  exact ⟨h1,⟨h2,ho.2⟩,oth_row2 ho.1 ho.2 h3⟩
theorem mkuGone (v:Value) (l:List Tr) (k lo hi:Nat) (w:World) (ho:InR 102 lo hi w v l) (hl:l.length<=4000000) (hk:k+3 * l.length<=40000000) (hk0:0 < k) :
    Calls Tryz.prog 69 #[v,.int .i64 (k:Int)] w (Mkd (k+3 * l.length) lo hi (fun w'=>InR 102 lo hi w' v (mkR k l.length)) w):=by
  refine (markGoneS_any v l k lo w ho.1 (by omega) (by omega) hk0).mono ?_
  rintro e w' ⟨h1,h2,h3⟩
  exact ⟨h1,⟨h2,ho.2⟩,oth_row2 ho.1 ho.2 h3⟩
theorem mkuAcct (v:Value) (l:List Ac) (k lo hi:Nat) (w:World) (ho:OwnX lo hi w v l) (hl:l.length<=4000000) (hlv:∀ a ∈ l,a.2.2.2.2.length<=4000000) (hk:nxs k l<=40000000) (hk0:0 < k) :
    Calls Tryz.prog 34 #[v,.int .i64 (k:Int)] w (Mkd (nxs k l) lo hi (fun w'=>OwnX lo hi w' v (mkAs k l)) w):=by
  refine (markAcctS_any v l k lo hi w ho (by omega) (fun a ha=>by have:=hlv a ha;omega) (by omega) hk0).mono ?_
  rintro e w' ⟨h1,h2,h3⟩
  exact ⟨h1,h2,oth_btw h3⟩
theorem mkuLedger (x:Int) (v:Value) (l:List Ac) (k lo hi:Nat) (w:World) (ho:OwnX lo hi w v l) (hl:l.length<=4000000) (hlv:∀ a ∈ l,a.2.2.2.2.length<=4000000) (hk:nxs k l<=40000000) (hk0:0 < k) :
    Calls Tryz.prog 13 #[lgV x v,.int .i64 (k:Int)] w (Mkd (nxs k l) lo hi (fun w'=>OwnX lo hi w' v (mkAs k l)) w):=by
  refine (markLedger_any x v l k lo hi w ho (by omega) (fun a ha=>by have:=hlv a ha;omega) (by omega) hk0).mono ?_
  rintro e w' ⟨h1,h2,h3⟩
  exact ⟨h1,h2,oth_btw h3⟩
theorem mkNilAc (k:Nat) (w:World) (hk:k<=90000000) :
    Calls Tryz.prog 34 #[.slice none 0 0,.int .i64 (k:Int)] w fun e w'=>e=.returned (.int .i64 (k:Int))/\Oth (fun _=>False) w w':=by
  go_enter Tryz.func34,Tryz.ntmps34
  go_wp2
  refine wp_loop_rounds 1 ?_
  rw [rounds_succ]
  go_wp2
  go_ret
  exact ⟨rfl,Oth.refl _ _⟩
theorem mkuLedgerZ (x:Int) (v:Value) (l:List Ac) (k lo hi:Nat) (w:World) (ho:OwnZ lo hi w v l) (hl:l.length<=4000000) (hlv:∀ a ∈ l,a.2.2.2.2.length<=4000000) (hk:nxs k l<=40000000) (hk0:0 < k) :
    Calls Tryz.prog 13 #[lgV x v,.int .i64 (k:Int)] w (Mkd (nxs k l) lo hi (fun w'=>OwnZ lo hi w' v (mkAs k l)) w):=by
  rcases ho with ⟨rfl,rfl⟩ | ho
  · have hk':k<=40000000:=hk
    have hb:Below w.heap.size w (w.alloc (.cells #[.int .i64 x,.slice none 0 0] 30)):=(Below.refl _ w).alloc (Nat.le_refl _) _
    have HE:=hide (mkNilAc k (w.alloc (.cells #[.int .i64 x,.slice none 0 0] 30)) (by omega))
    have HB:=hide (Oth.of_below (S:=fun g=>lo<=g/\g < hi) hb)
    clear hb hl hlv hk
    simp only [lgV]
    go_enter Tryz.func13,Tryz.ntmps13
    go_wp2_with fail
    refine HE.out.mono ?_
    rintro en w3 ⟨rfl,ho3⟩
    have HO:=hide (HB.out.trans (ho3.mono (fun g hg=>hg.elim)))
    clear ho3 HE HB
    go_wp2
    go_ret
    exact ⟨rfl,.inl ⟨rfl,rfl⟩,HO.out⟩
  · refine (mkuLedger x v l k lo hi w ho hl hlv hk hk0).mono ?_
    rintro e w' ⟨h1,h2,h3⟩
    exact ⟨h1,.inr h2,h3⟩
theorem mkuBlock (v:Value) (l:List Bk) (k lo hi:Nat) (w:World) (ho:OwnKx lo hi w v l) (hl:l.length<=4000000) (hf:∀ b ∈ l,FewK b) (hk:k+totM l<=40000000) (hk0:0 < k) :
    Calls Tryz.prog 37 #[v,.int .i64 (k:Int)] w (Mkd (k+totM l) lo hi (fun w'=>OwnKx lo hi w' v (mkLk k l)) w) :=
  markKx_any v l k lo hi w ho (by omega) (fun b hb=>by have f:=hf b hb;exact ⟨f.q,f.w,f.h,f.t,f.n⟩) (by omega) hk0
end Go.Proofs.YthidkbhiikdokaaGreat
namespace Go.Proofs.YthidkbhiikdokaaGreat
open Go.RowKit
set_option linter.unusedVariables false
theorem mkuStrI (v u:Value) (l:List ByteArray) (n:List Int) (k lo hi:Nat) (w:World) (ho:InS lo hi w v l) (hi':InI lo hi w u n) (hl:l.length<=4000000) (hk:k+l.length<=40000000) (hk0:0 < k) :
    Calls Tryz.prog 14 #[v,.int .i64 (k:Int)] w (Mkd (k+l.length) lo hi (fun w'=>InS lo hi w' v (mkS k l.length)/\InI lo hi w' u n) w):=by
  have Hap:=rows_apart (w:=w) ho.1 hi'.1 (by decide)
  refine (markStringS_any v l k lo w ho.1 (by omega) (by omega) hk0).mono ?_
  rintro e w' ⟨h1,h2,h3⟩
  exact ⟨h1,⟨⟨h2,ho.2⟩,⟨row_oth hi'.1 (Oth.of_grown (S:=fun g=>v.ownBlock=some g) h3 (fun g h=>h)) (fun g h h'=>Hap g h h'),hi'.2⟩⟩,oth_row ho.1 ho.2 h3⟩
theorem mkuIntS (v u:Value) (l:List ByteArray) (n:List Int) (k lo hi:Nat) (w:World) (ho:InS lo hi w v l) (hi':InI lo hi w u n) (hn:n.length<=4000000) (hk:k+n.length<=40000000) (hk0:0 < k) :
    Calls Tryz.prog 67 #[u,.int .i64 (k:Int)] w (Mkd (k+n.length) lo hi (fun w'=>InS lo hi w' v l/\InI lo hi w' u (mkI k n.length)) w):=by
  have Hap:=rows_apart (w:=w) hi'.1 ho.1 (by decide)
  refine (markIntS_any u n k lo w hi'.1 (by omega) (by omega) hk0).mono ?_
  rintro e w' ⟨h1,h2,h3⟩
  exact ⟨h1,⟨⟨row_oth ho.1 (Oth.of_grown (S:=fun g=>u.ownBlock=some g) h3 (fun g h=>h)) (fun g h h'=>Hap g h h'),ho.2⟩,⟨h2,hi'.2⟩⟩,oth_row hi'.1 hi'.2 h3⟩
end Go.Proofs.YthidkbhiikdokaaGreat
