/- The blocks of these places, folded over a ledger, up to the last end. -/
import Derived.Test.YteefibiikampbaaGreatDoorZfSfPure
namespace Go.Proofs.YteefibiikampbaaGreatDoor
open Go.RowKit
set_option linter.unusedVariables false
def eqAcs:List Ac->List Ac->Bool
  | [],[]=>true
  | a :: l,b :: m=>decide (a=b) && eqAcs l m
  | [],_ :: _=>false
  | _ :: _,[]=>false
theorem eqAcs_yes:∀ {l m:List Ac},l=m->eqAcs l m=true
  | [],_,rfl=>rfl
  | a :: l,_,rfl=>by
    unfold eqAcs
    rw [decide_eq_true rfl,eqAcs_yes (l:=l) rfl]
    rfl
theorem eqAcs_of:∀ {l m:List Ac},eqAcs l m=true->l=m
  | [],[],_=>rfl
  | a :: l,b :: m,h=>by
    unfold eqAcs at h
    rw [Bool.and_eq_true] at h
    rw [of_decide_eq_true h.1,eqAcs_of h.2]
  | [],_ :: _,h=>by cases h
  | _ :: _,[],h=>by cases h
theorem eqAcs_no {l m:List Ac} (h:l ≠ m):eqAcs l m=false:=by
  cases hb:eqAcs l m
  · rfl
  · exact absurd (eqAcs_of hb) h
def plB (bs:List Bk) (id:Int):Bool:=inB id 0 ((bs.length:Int) - 1)
theorem pl_yes {bs:List Bk} {id:Int} (h:plB bs id=true):∃ k:Nat,k < bs.length/\id=(k:Int):=by
  unfold plB inB at h
  have h:=of_decide_eq_true h
  exact ⟨id.toNat,by omega,by omega⟩
def foB (s:Int × List Ac) (b:Bk):Int × List Ac:=if b.en=true then neA s.1 (alA s.1 s.2 b.ts).1 else (s.1,(alA s.1 s.2 b.ts).1)
def foS (bs:List Bk) (s:Int × List Ac) (id:Int):Int × List Ac:=match bs[id.toNat]? with
  | some b=>foB s b
  | none=>s
theorem foS_at {bs:List Bk} {k:Nat} (s:Int × List Ac) (h:k < bs.length):foS bs s (k:Int)=foB s bs[k]:=by
  unfold foS
  rw [Int.toNat_natCast,List.getElem?_eq_getElem h]
def foD (bs:List Bk) (e:Int) (l:List Ac) (d:List Int):Int × List Ac:=d.foldl (foS bs) (e,l)
theorem foD_snoc (bs:List Bk) (e:Int) (l:List Ac) (d:List Int) (k:Nat) (h:k < d.length):foD bs e l (d.take (k+1))=foS bs (foD bs e l (d.take k)) d[k]:=by
  rw [List.take_succ_eq_append_getElem h]
  unfold foD
  rw [List.foldl_append]
  rfl
def okD (bs:List Bk) (d:List Int):Bool:=d.all (plB bs)
theorem okD_no {bs:List Bk} {d:List Int} {k:Nat} (h:k < d.length) (hp:plB bs d[k]=false):okD bs d=false:=by
  unfold okD
  cases hb:d.all (plB bs)
  · rfl
  · rw [List.all_eq_true.1 hb _ (List.getElem_mem h)] at hp
    cases hp
theorem okD_yes {bs:List Bk} {d:List Int} (h:∀ j (hj:j < d.length),plB bs d[j]=true):okD bs d=true:=by
  unfold okD
  rw [List.all_eq_true]
  intro x hx
  obtain ⟨j,hj,rfl⟩:=List.getElem_of_mem hx
  exact h j hj
def FewG (s:Int × List Ac):Prop:=s.2.length<=3999999/\∀ a ∈ s.2,a.1.size<=maxLen/\a.2.2.2.2.length<=3999999
theorem foNe_few {e:Int} {l:List Ac} (h:FewG (e,l)):FewG (neA e l):=by
  obtain ⟨h1,h2⟩:=h
  unfold neA
  split
  · refine ⟨by rw [List.length_map];exact h1,fun a ha=>?_⟩
    obtain ⟨b,hb,rfl⟩:=List.mem_map.1 ha
    exact ⟨(h2 b hb).1,Nat.le_trans (frA_len _ b) (h2 b hb).2⟩
  · exact ⟨h1,h2⟩
theorem foB_few {s:Int × List Ac} (b:Bk) (h:FewG s):FewG (foB s b):=by
  have h':FewG (s.1,(alA s.1 s.2 b.ts).1):=alA_few b.ts h.1 h.2
  unfold foB
  split
  · exact foNe_few h'
  · exact h'
theorem foS_few {bs:List Bk} {s:Int × List Ac} (id:Int) (h:FewG s):FewG (foS bs s id):=by
  unfold foS
  cases bs[id.toNat]? with
  | none=>exact h
  | some b=>exact foB_few b h
theorem foD_few {bs:List Bk} {e:Int} {l:List Ac} (h:FewG (e,l)):∀ d:List Int,FewG (foD bs e l d):=by
  have go:∀ (d:List Int) (s:Int × List Ac),FewG s->FewG (d.foldl (foS bs) s):=by
    intro d
    induction d with
    | nil=>exact fun s h=>h
    | cons x t ih=>exact fun s h=>ih _ (foS_few x h)
  exact fun d=>go d _ h
def edB (bs:List Bk) (id:Int):Bool:=plB bs id && ((bs[id.toNat]?.map (·.en)).getD false)
theorem ed_at {bs:List Bk} {k:Nat} (h:k < bs.length):edB bs (k:Int)=bs[k].en:=by
  have e:plB bs (k:Int)=true:=by unfold plB inB;exact decide_eq_true (by omega)
  unfold edB
  rw [e,Bool.true_and,Int.toNat_natCast,List.getElem?_eq_getElem h]
  rfl
theorem ed_no {bs:List Bk} {id:Int} (h:plB bs id=false):edB bs id=false:=by unfold edB;rw [h];rfl
def enN (bs:List Bk) (d:List Int):Nat->Nat
  | 0=>0
  | k+1=>if edB bs (d[k]?.getD 0)=true then k+1 else enN bs d k
theorem enN_le (bs:List Bk) (d:List Int):∀ k,enN bs d k<=k
  | 0=>Nat.le_refl _
  | k+1=>by
    unfold enN
    split
    · exact Nat.le_refl _
    · exact Nat.le_succ_of_le (enN_le bs d k)
theorem enN_yes {bs:List Bk} {d:List Int} {k:Nat} (h:k < d.length) (he:edB bs d[k]=true):enN bs d (k+1)=k+1:=by
  rw [enN,List.getElem?_eq_getElem h,Option.getD_some,if_pos he]
theorem enN_no {bs:List Bk} {d:List Int} {k:Nat} (h:k < d.length) (he:edB bs d[k]=false):enN bs d (k+1)=enN bs d k:=by
  rw [enN,List.getElem?_eq_getElem h,Option.getD_some,if_neg (by rw [he];decide)]
def enD (bs:List Bk) (d:List Int):List Int:=d.take (enN bs d d.length)
theorem enD_len (bs:List Bk) (d:List Int):(enD bs d).length=enN bs d d.length:=by
  unfold enD
  rw [List.length_take,Nat.min_eq_left (enN_le bs d _)]
def fnB (bs:List Bk) (e:Int) (l:List Ac) (n:Nd):Bool:=okD bs (enD bs n.dn) && (decide ((foD bs e l (enD bs n.dn)).1=n.be) && eqAcs (foD bs e l (enD bs n.dn)).2 n.la)
def fdB (z:Wd):Bool:=z.ns.all (fnB z.bs z.ep z.la)
theorem fd_no {bs:List Bk} {e:Int} {l:List Ac} {ns:List Nd} {k:Nat} (h:k < ns.length) (hb:fnB bs e l ns[k]=false):ns.all (fnB bs e l)=false:=by
  cases hb':ns.all (fnB bs e l)
  · rfl
  · rw [List.all_eq_true.1 hb' _ (List.getElem_mem h)] at hb
    cases hb
theorem fd_yes {bs:List Bk} {e:Int} {l:List Ac} {ns:List Nd} (h:∀ k (h:k < ns.length),fnB bs e l ns[k]=true):ns.all (fnB bs e l)=true:=by
  rw [List.all_eq_true]
  intro x hx
  obtain ⟨j,hj,rfl⟩:=List.getElem_of_mem hx
  exact h j hj
end Go.Proofs.YteefibiikampbaaGreatDoor
