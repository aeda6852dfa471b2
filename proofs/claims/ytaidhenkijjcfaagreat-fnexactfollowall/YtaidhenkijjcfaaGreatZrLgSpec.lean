/- The model's ledgers that are right, and copies of them. -/
import Derived.Test.YtaidhenkijjcfaaGreatZrPoVal
import Derived.Deep.Cut
set_option maxRecDepth 20000
set_option maxHeartbeats 1000000
namespace Go.Proofs.YtaidhenkijjcfaaGreat
open Go.RowKit Go.Sort
set_option linter.unusedVariables false
def cfB (st:List Vl) (qr qb:Int) (qw:List ByteArray) (b:Bk):Bool:=decide (qb=b.id) && (decide (qr=b.rd) && qcB st qr qb qw)
def lkAt (e:Int) (st:List Vl) (l:List Bk) (i:Nat) (h:i < l.length):Bool:=blB l[i] && (decide (l[i].ep=e) && (decide (i=0) || cfB st l[i].qr l[i].qb l[i].qw (l[i - 1]'(by omega))))
def lkB (e:Int) (st:List Vl) (l:List Bk):Bool:=decide (∀ i (h:i < l.length),lkAt e st l i h=true)
theorem lkB_no {e:Int} {st:List Vl} {l:List Bk} (i:Nat) (h:i < l.length) (hx:lkAt e st l i h=false):lkB e st l=false:=decide_eq_false (fun hh=>by have:=hh i h;rw [hx] at this;cases this)
theorem lkB_yes {e:Int} {st:List Vl} {l:List Bk} (hx:∀ i (h:i < l.length),lkAt e st l i h=true):lkB e st l=true:=decide_eq_true hx
theorem lkB_at {e:Int} {st:List Vl} {l:List Bk} (hx:lkB e st l=true) (i:Nat) (h:i < l.length):blB l[i]=true/\l[i].ep=e:=by
  have h1:=of_decide_eq_true hx i h
  unfold lkAt at h1
  simp only [Bool.and_eq_true,decide_eq_true_eq] at h1
  exact ⟨h1.1,h1.2.1⟩
theorem blB_rd {b:Bk} (h:blB b=true):(0<=b.ep/\b.ep<=900)/\(1<=b.rd/\b.rd<=10000):=by
  unfold blB at h
  simp only [Bool.and_eq_true] at h
  obtain ⟨_,h1,h2,_⟩:=h
  unfold inB at h1 h2
  rw [decide_eq_true_eq] at h1 h2
  exact ⟨h1,h2⟩
def clT (e:Int) (st:List Vl) (p:Pf) (a b:Bk):Bool:=lkB e st p.bs && (decide (a.rd=b.rd - 1) && (cfB st p.qr p.qb p.qw b && (p.bs.take (p.bs.length - 1)).any (fun x=>x.en)))
def clB (e:Int) (st:List Vl) (p:Pf):Bool:=setB st && (decide (p.ep=e) && (if h:2<=p.bs.length then clT e st p (p.bs[p.bs.length - 2]'(by omega)) (p.bs[p.bs.length - 1]'(by omega)) else false))
def enN (l:List Bk):List Vl:=((l.find? (fun x=>x.en)).map (fun x=>x.nx)).getD []
def clE (e:Int) (st:List Vl) (p:Pf):Int:=if clB e st p=true then e+1 else e
def clS (e:Int) (st:List Vl) (p:Pf):List Vl:=if clB e st p=true then enN p.bs else st
theorem clB_no1 {e:Int} {st:List Vl} {p:Pf} (h:setB st=false):clB e st p=false:=by unfold clB;rw [h,Bool.false_and]
theorem clB_no2 {e:Int} {st:List Vl} {p:Pf} (h:¬ p.ep=e):clB e st p=false:=by unfold clB;rw [decide_eq_false h,Bool.false_and,Bool.and_false]
theorem clB_no3 {e:Int} {st:List Vl} {p:Pf} (h:¬ 2<=p.bs.length):clB e st p=false:=by unfold clB;rw [dif_neg h,Bool.and_false,Bool.and_false]
theorem clB_eq {e:Int} {st:List Vl} {p:Pf} (h1:setB st=true) (h2:p.ep=e) (h3:2<=p.bs.length):clB e st p=clT e st p (p.bs[p.bs.length - 2]'(by omega)) (p.bs[p.bs.length - 1]'(by omega)):=by
  unfold clB;rw [h1,decide_eq_true h2,dif_pos h3,Bool.true_and,Bool.true_and]
theorem clB_is {e:Int} {st:List Vl} {p:Pf} (h:clB e st p=true):(0<=e/\e<=900)/\2<=p.bs.length/\(p.bs.take (p.bs.length - 1)).any (fun x=>x.en)=true:=by
  by_cases h3:2<=p.bs.length
  · cases h1:setB st
    · rw [clB_no1 h1] at h;cases h
    · by_cases h2:p.ep=e
      · rw [clB_eq h1 h2 h3] at h
        unfold clT at h
        simp only [Bool.and_eq_true] at h
        obtain ⟨hl,-,-,he⟩:=h
        have h0:=lkB_at hl 0 (by omega)
        have h4:=(blB_rd h0.1).1
        rw [h0.2] at h4
        exact ⟨h4,h3,he⟩
      · rw [clB_no2 h2] at h;cases h
  · rw [clB_no3 h3] at h;cases h
theorem clS_len {e:Int} {st:List Vl} {p:Pf} (hs:st.length<=4000000) (hf:∀ b ∈ p.bs,b.nx.length<=4000000):(clS e st p).length<=4000000:=by
  unfold clS
  split
  · unfold enN
    cases hx:p.bs.find? (fun x=>x.en) with
    | none=>simp
    | some b=>exact hf b (List.mem_of_find?_eq_some hx)
  · exact hs
theorem clS_in {e:Int} {st:List Vl} {p:Pf} (P:Vl->Prop) (hs:∀ q ∈ st,P q) (hf:∀ b ∈ p.bs,∀ q ∈ b.nx,P q):∀ q ∈ clS e st p,P q:=by
  unfold clS
  split
  · unfold enN
    cases hx:p.bs.find? (fun x=>x.en) with
    | none=>intro q hq;simp at hq
    | some b=>exact hf b (List.mem_of_find?_eq_some hx)
  · exact hs
theorem BkAt.range {w:World} {g o:Nat} {b:Bk} {v:Bv} (h:BkAt w g o b v):w.rangeAt g o (bkC b v):=fun j u hj=>by
  have hl:j < 14:=by
    have h2:=(List.getElem?_eq_some_iff.1 hj).1
    exact h2
  exact (h j hl).trans hj
theorem RdKs.atC {w:World} {a:Option Addr} {cap n:Nat} {l:List Bk} (h:RdKs w (.slice a n cap) l) (hl:0 < l.length):∃ b off,a=some ⟨b,off,none⟩/\b < w.heap.size/\n<=cap/\∀ i (h:i < l.length),∃ bv,BkAt w b (off+i * 14) l[i] bv/\RdK w l[i] bv:=by
  rcases h with ⟨a',cap',e,rfl,hn⟩ | ⟨b,off,cap',h0,e,h1,h2,h3,h4⟩
  · simp at hl
  · simp only [Value.slice.injEq] at e
    obtain ⟨rfl,rfl,rfl⟩:=e
    exact ⟨b,off,rfl,h3,h1,h4⟩
end Go.Proofs.YtaidhenkijjcfaaGreat
namespace Go.Proofs.YtaidhenkijjcfaaGreat
open Go.RowKit
set_option linter.unusedVariables false
def lgB (e:Int) (l:List Ac):Bool:=inB e 0 900 && acsB l
theorem specLedgerOk_any (e:Int) (v:Value) (l:List Ac) (w:World) (hr:RdA w v l) (hl:l.length<=4000000) (hall:∀ a ∈ l,a.1.size<=maxLen/\a.2.2.2.2.length<=4000000) :
    Calls Tryz.prog 126 #[lgV e v] w fun en w'=>en=.returned (.bool (lgB e l))/\Below w.heap.size w w':=by
  obtain ⟨a1,cv1,rfl⟩:=hr.shape
  simp only [lgV] at *
  have hb3:Below w.heap.size w (w.alloc (.cells #[.int .i64 e,.slice a1 l.length cv1] 66)):=(Below.refl _ w).alloc (Nat.le_refl _) _
  have HE:=hide (specAcctsOk_any _ l _ (hr.below hb3 (Nat.le_refl _)) hl hall)
  have Hb3:=hide hb3
  have Hx:Hid (lgB e l=(inB e 0 900 && acsB l)):=hide rfl
  clear hb3 hr hall
  generalize lgB e l=X at Hx
  generalize acsB l=A at Hx HE
  cases h0:inB e 0 900
  · rw [h0,Bool.false_and] at Hx
    go_enter Tryz.func126,Tryz.ntmps126
    go_wp2_with (go_at_call 90;refine (l1In_any _ _ _ _).mono ?_;rintro en w1 ⟨rfl,rfl⟩)
    go_ret
    exact ⟨ret_bool Hx.out.symm,Hb3.out⟩
  · rw [h0,Bool.true_and] at Hx
    go_enter Tryz.func126,Tryz.ntmps126
    go_wp2_with (first
      | (go_at_call 90;refine (l1In_any _ _ _ _).mono ?_;rintro en w1 ⟨rfl,rfl⟩)
      | (go_at_call 147;refine HE.out.mono ?_;rintro en w2 ⟨rfl,hb2⟩))
    go_ret
    exact ⟨ret_bool Hx.out.symm,Hb3.out.trans (hb2.mono Hb3.out.size)⟩
end Go.Proofs.YtaidhenkijjcfaaGreat
