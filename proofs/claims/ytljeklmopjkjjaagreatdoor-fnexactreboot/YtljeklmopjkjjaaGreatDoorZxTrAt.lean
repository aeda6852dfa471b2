/- Where a block stands, by the model. -/
import Derived.Test.YtljeklmopjkjjaaGreatDoorZxTxMarkC
set_option maxRecDepth 20000
set_option maxHeartbeats 1000000
namespace Go.Proofs.YtljeklmopjkjjaaGreatDoor
open Go.RowKit
set_option linter.unusedVariables false
def okP (l:List Bk) (i:Nat) (h:i < l.length):Prop :=
  blB l[i]=true/\l[i].ep=(l[0]'(by omega)).ep/\(0 < i->(l[i - 1]'(by omega)).id < l[i].id) /\
    (rootB l[i].qr l[i].qb l[i].qw=true\/∃ k,∃ hk:k < i,(l[k]'(by omega)).id=l[i].qb/\(l[k]'(by omega)).rd=l[i].qr)
def treeP (l:List Bk):Prop:=l.length<=400/\∀ i (h:i < l.length),okP l i h
def okD (l:List Bk) (i:Nat) (h:i < l.length):Decidable (okP l i h):=by unfold okP;exact inferInstance
def treeD (l:List Bk):Decidable (treeP l):=@instDecidableAnd _ _ _ (@Nat.decidableBallLT l.length (okP l) (okD l))
def treeB (l:List Bk):Bool:=@decide (treeP l) (treeD l)
theorem treeB_yes {l:List Bk} (h:treeP l):treeB l=true:=by unfold treeB;exact @decide_eq_true _ (treeD l) h
theorem treeB_no {l:List Bk} (h:¬ treeP l):treeB l=false:=by unfold treeB;exact @decide_eq_false _ (treeD l) h
theorem treeP_of {l:List Bk} (h:treeB l=true):treeP l:=by unfold treeB at h;exact @of_decide_eq_true _ (treeD l) h
theorem tree_not {l:List Bk} {i:Nat} (hi:i < l.length) (h:¬ okP l i hi):treeB l=false:=treeB_no (fun t=>h (t.2 i hi))
theorem tree_big {l:List Bk} (h:400 < l.length):treeB l=false:=treeB_no (fun t=>by have:=t.1;omega)
def AscP (l:List Bk) (n:Nat):Prop:=∀ a b (ha:a < l.length) (hb:b < l.length),a < b->b < n->l[a].id < l[b].id
theorem asc_of {l:List Bk} {n:Nat} (h:∀ i (hi:i < l.length),i < n->okP l i hi):AscP l n:=by
  intro a b ha hb hab hbn
  induction b with
  | zero=>omega
  | succ b ih =>
    have hk:=(h (b+1) hb hbn).2.2.1 (by omega)
    simp only [Nat.add_sub_cancel] at hk
    by_cases e:a=b
    · subst e;exact hk
    · have:=ih (by omega) (by omega) (by omega)
      omega
theorem AscP.one {l:List Bk} {n:Nat} (h:AscP l n) {a b:Nat} (ha:a < l.length) (hb:b < l.length) (han:a < n) (hbn:b < n) (e:l[a].id=l[b].id):a=b:=by
  by_cases h1:a < b
  · have:=h a b ha hb h1 hbn;omega
  · by_cases h2:b < a
    · have:=h b a hb ha h2 han;omega
    · omega
def AtR (l:List Bk) (id r:Int):Prop :=
  (r=-1/\∀ j (h:j < l.length),l[j].id ≠ id)\/∃ j,∃ h:j < l.length,r=(j:Int)/\l[j].id=id/\∀ i (h2:i < l.length),i < j->l[i].id ≠ id
theorem AtR.one {l:List Bk} {id r s:Int} (h:AtR l id r) (k:AtR l id s):r=s:=by
  rcases h with ⟨rfl,h⟩ | ⟨i,hi,rfl,e,h⟩ <;> rcases k with ⟨rfl,k⟩ | ⟨j,hj,rfl,f,k⟩
  · rfl
  · exact absurd f (h j hj)
  · exact absurd e (k i hi)
  · by_cases h1:i < j
    · exact absurd e (k i hi h1)
    · by_cases h2:j < i
      · exact absurd f (h j hj h2)
      · omega
def atI:List Bk->Int->Int
  | [],_=>-1
  | b :: l,id=>if b.id=id then 0 else if atI l id=-1 then -1 else atI l id+1
theorem atI_is (l:List Bk) (id:Int):AtR l id (atI l id):=by
  induction l with
  | nil=>exact .inl ⟨rfl,fun j h=>by simp at h⟩
  | cons b l ih =>
    unfold atI
    by_cases e:b.id=id
    · rw [if_pos e];exact .inr ⟨0,by simp,rfl,e,fun i _ h=>by omega⟩
    · rw [if_neg e]
      obtain ⟨h1,h⟩ | ⟨j,hj,h1,f,h⟩:=ih
      · rw [h1,if_pos rfl]
        refine .inl ⟨rfl,fun j hj=>?_⟩
        cases j with
        | zero=>exact e
        | succ j=>exact h j (by simpa using hj)
      · rw [h1,if_neg (by omega)]
        refine .inr ⟨j+1,by simpa using hj,by omega,f,fun i hi hij=>?_⟩
        cases i with
        | zero=>exact e
        | succ i=>exact h i (by simpa using hi) (by omega)
theorem atI_eq {l:List Bk} {id r:Int} (h:AtR l id r):atI l id=r:=(atI_is l id).one h
theorem ok_by {l:List Bk} {i:Nat} (hi:i < l.length) (hasc:AscP l i) (hB:blB l[i]=true) (hE:l[i].ep=(l[0]'(by omega)).ep) (hP:0 < i->(l[i - 1]'(by omega)).id < l[i].id)
    (hn:rootB l[i].qr l[i].qb l[i].qw=false) {r:Int} (hr:AtR (l.take i) l[i].qb r):okP l i hi ↔ ∃ k,∃ hk:k < i,r=(k:Int)/\(l[k]'(by omega)).rd=l[i].qr:=by
  constructor
  · rintro ⟨_,_,_,h | ⟨k,hk,e,f⟩⟩
    · rw [hn] at h;cases h
    · rcases hr with ⟨rfl,h⟩ | ⟨j,hj,rfl,g,h⟩
      · exact absurd (by rw [List.getElem_take];exact e) (h k (by simp;omega))
      · have hj2:j < i:=by simp at hj;omega
        have:j=k:=hasc.one (by omega) (by omega) hj2 hk (by rw [e];simpa using g)
        subst this
        exact ⟨j,hj2,rfl,f⟩
  · rintro ⟨k,hk,rfl,f⟩
    refine ⟨hB,hE,hP,.inr ⟨k,hk,?_,f⟩⟩
    rcases hr with ⟨h,_⟩ | ⟨j,hj,e,g,_⟩
    · omega
    · obtain rfl:k=j:=by omega
      simpa using g
theorem RdKs.take {w:World} {a:Option Addr} {cap:Nat} {l:List Bk} (h:RdKs w (.slice a l.length cap) l) (k:Nat) (hk:k<=l.length):RdKs w (.slice a k cap) (l.take k):=by
  rcases h with ⟨a',cap',e,rfl,hn⟩ | ⟨b,off,cap',h0,e,h1,h2,h3,h4⟩
  · simp only [Value.slice.injEq] at e
    obtain ⟨rfl,-,rfl⟩:=e
    obtain rfl:k=0:=by simpa using hk
    exact .inl ⟨_,_,rfl,rfl,hn⟩
  · simp only [Value.slice.injEq] at e
    obtain ⟨rfl,-,rfl⟩:=e
    by_cases hz:k=0
    · subst hz;exact .inl ⟨_,_,rfl,by simp,fun h=>by cases h⟩
    · have hl:(l.take k).length=k:=by simp;omega
      refine .inr ⟨b,off,cap,?_,by rw [hl],by omega,h2,h3,fun i hi=>?_⟩
      · intro e;rw [e] at hl;simp at hl;omega
      · rw [hl] at hi
        obtain ⟨bv,p,q⟩:=h4 i (by omega)
        exact ⟨bv,by simpa using p,by simpa using q⟩
theorem specAt_any (v:Value) (l:List Bk) (id:Int) (w:World) (hr:RdKs w v l) (hl:l.length<=4000000) :
    Calls Tryz.prog 134 #[v,.int .i64 id] w fun e w'=>e=.returned (.int .i64 (atI l id))/\w'=w:=by
  rcases hr with ⟨a,cap,rfl,rfl,-⟩ | ⟨b,off,cap,h0,rfl,h1,h2,h3,h4⟩
  · have HX:=hide (atI_eq (l:=[]) (id:=id) (.inl ⟨rfl,fun j h=>by simp at h⟩))
    go_enter Tryz.func134,Tryz.ntmps134
    go_wp2
    refine wp_loop_rounds 1 ?_
    rw [rounds_succ]
    go_wp2
    go_ret
    exact ⟨ret_int HX.out.symm,rfl⟩
  · have H4 := hide h4
    clear h4 h0
    go_enter Tryz.func134,Tryz.ntmps134
    go_wp2
    go_loopw [5] (fun i wr=>∃ k:Nat,k<=l.length/\i=.int .i64 k/\(∀ j (h:j < l.length),j < k->l[j].id ≠ id)/\wr=w) (fun i _=>l.length - (intOf i).toNat)
    case atStart=>exact ⟨0,Nat.zero_le _,rfl,fun j _ h=>by omega,rfl⟩
    case round =>
      obtain ⟨k,hk,rfl,hno,rfl⟩:=hrel
      have Hno:=hide hno
      clear hno
      by_cases hlt:k < l.length
      · obtain ⟨lv,hat,-⟩:=H4.out k hlt
        have c0:=hat.cells.1
        clear hat
        have hli:(k:Int) < (l.length:Int):=by omega
        by_cases he:l[k].id=id
        · have HX:=hide (atI_eq (l:=l) (id:=id) (.inr ⟨k,hlt,rfl,he,Hno.out⟩))
          rw [he] at c0
          clear he
          go_wp2
          go_ret
          exact ⟨ret_int HX.out.symm,rfl⟩
        · have HY:Hid (∀ j (h:j < l.length),j < k+1->l[j].id ≠ id):=hide (fun j h hj=>by
            by_cases e:j=k
            · subst e;exact he
            · exact Hno.out j h (by omega))
          generalize l[k].id=d at c0 he
          go_wp2
          go_roundw
          case rel=>exact ⟨k+1,by omega,by go_num,HY.out,by first | trivial | rfl⟩
          case measure=>simp [intOf];omega
      · have HX:=hide (atI_eq (l:=l) (id:=id) (.inl ⟨rfl,fun j h=>Hno.out j h (by omega)⟩))
        go_wp2
        go_ret
        exact ⟨ret_int HX.out.symm,rfl⟩
end Go.Proofs.YtljeklmopjkjjaaGreatDoor
