/- A plain region whose operations only read, walked by the cheap step of 'go_quiet'. -/
import Derived.Test.YthehfkafcdociaaGreatDoorZyLgAll
import Derived.Test.YthehfkafcdociaaGreatDoorZyEqAcs
namespace Go.Proofs.YthehfkafcdociaaGreatDoor
open Go.RowKit
set_option linter.unusedVariables false
def plB (bs:List Bk) (id:Int):Bool:=inB id 0 ((bs.length:Int) - 1)
theorem pl_yes {bs:List Bk} {id:Int} (h:plB bs id=true):∃ k:Nat,k < bs.length/\id=(k:Int):=by
  unfold plB inB at h
  have h:=of_decide_eq_true h
  exact ⟨id.toNat,by omega,by omega⟩
def foB (s:Int × List Ac) (b:Bk):Int × List Ac:=if b.en=true then neA s.1 (alA s.1 s.2 b.ts).1 else (s.1,(alA s.1 s.2 b.ts).1)
def foS (bs:List Bk) (s:Int × List Ac) (id:Int):Int × List Ac:=match bs[id.toNat]? with
  | some b=>foB s b
  | none=>s
theorem foS_at {bs:List Bk} {k:Nat} (s:Int × List Ac) (h:k < bs.length):foS bs s (k:Int)=foB s bs[k]:=by
  unfold foS
  rw [Int.toNat_natCast,List.getElem?_eq_getElem h]
def foD (bs:List Bk) (e:Int) (l:List Ac) (d:List Int):Int × List Ac:=d.foldl (foS bs) (e,l)
theorem foD_snoc (bs:List Bk) (e:Int) (l:List Ac) (d:List Int) (k:Nat) (h:k < d.length):foD bs e l (d.take (k+1))=foS bs (foD bs e l (d.take k)) d[k]:=by
  rw [List.take_succ_eq_append_getElem h]
  unfold foD
  rw [List.foldl_append]
  rfl
def okD (bs:List Bk) (d:List Int):Bool:=d.all (plB bs)
theorem okD_no {bs:List Bk} {d:List Int} {k:Nat} (h:k < d.length) (hp:plB bs d[k]=false):okD bs d=false:=by
  unfold okD
  cases hb:d.all (plB bs)
  · rfl
  · rw [List.all_eq_true.1 hb _ (List.getElem_mem h)] at hp
    cases hp
theorem okD_yes {bs:List Bk} {d:List Int} (h:∀ j (hj:j < d.length),plB bs d[j]=true):okD bs d=true:=by
  unfold okD
  rw [List.all_eq_true]
  intro x hx
  obtain ⟨j,hj,rfl⟩:=List.getElem_of_mem hx
  exact h j hj
def FewG (s:Int × List Ac):Prop:=s.2.length<=3999999/\∀ a ∈ s.2,a.1.size<=maxLen/\a.2.2.2.2.length<=3999999
theorem foNe_few {e:Int} {l:List Ac} (h:FewG (e,l)):FewG (neA e l):=by
  obtain ⟨h1,h2⟩:=h
  unfold neA
  split
  · refine ⟨by rw [List.length_map];exact h1,fun a ha=>?_⟩
    obtain ⟨b,hb,rfl⟩:=List.mem_map.1 ha
    exact ⟨(h2 b hb).1,Nat.le_trans (frA_len _ b) (h2 b hb).2⟩
  · exact ⟨h1,h2⟩
theorem foB_few {s:Int × List Ac} (b:Bk) (h:FewG s):FewG (foB s b):=by
  have h':FewG (s.1,(alA s.1 s.2 b.ts).1):=alA_few b.ts h.1 h.2
  unfold foB
  split
  · exact foNe_few h'
  · exact h'
theorem foS_few {bs:List Bk} {s:Int × List Ac} (id:Int) (h:FewG s):FewG (foS bs s id):=by
  unfold foS
  cases bs[id.toNat]? with
  | none=>exact h
  | some b=>exact foB_few b h
theorem foD_few {bs:List Bk} {e:Int} {l:List Ac} (h:FewG (e,l)):∀ d:List Int,FewG (foD bs e l d):=by
  have go:∀ (d:List Int) (s:Int × List Ac),FewG s->FewG (d.foldl (foS bs) s):=by
    intro d
    induction d with
    | nil=>exact fun s h=>h
    | cons x t ih=>exact fun s h=>ih _ (foS_few x h)
  exact fun d=>go d _ h
def edB (bs:List Bk) (id:Int):Bool:=plB bs id && ((bs[id.toNat]?.map (·.en)).getD false)
def enN (bs:List Bk) (d:List Int):Nat->Nat
  | 0=>0
  | k+1=>if edB bs (d[k]?.getD 0)=true then k+1 else enN bs d k
def enD (bs:List Bk) (d:List Int):List Int:=d.take (enN bs d d.length)
def fnB (bs:List Bk) (e:Int) (l:List Ac) (n:Nd):Bool:=okD bs (enD bs n.dn) && (decide ((foD bs e l (enD bs n.dn)).1=n.be) && eqAcs (foD bs e l (enD bs n.dn)).2 n.la)
def fdB (z:Wd):Bool:=z.ns.all (fnB z.bs z.ep z.la)
end Go.Proofs.YthehfkafcdociaaGreatDoor
namespace Go.Proofs.YthehfkafcdociaaGreatDoor
open Go.RowKit Go.Sort
set_option linter.unusedVariables false
end Go.Proofs.YthehfkafcdociaaGreatDoor
