/- The model's blocks that are right. -/
import Derived.Test.YtohachldbpejpaaGreatDoorZlTxMarkC
set_option maxRecDepth 20000
set_option maxHeartbeats 2000000
namespace Go.Proofs.YtohachldbpejpaaGreatDoor
open Go.RowKit
set_option linter.unusedVariables false
def okP (l:List Bk) (i:Nat) (h:i < l.length):Prop :=
  blB l[i]=true/\l[i].ep=(l[0]'(by omega)).ep/\(0 < i->(l[i - 1]'(by omega)).id < l[i].id) /\
    (rootB l[i].qr l[i].qb l[i].qw=true\/∃ k,∃ hk:k < i,(l[k]'(by omega)).id=l[i].qb/\(l[k]'(by omega)).rd=l[i].qr)
def treeP (l:List Bk):Prop:=l.length<=400/\∀ i (h:i < l.length),okP l i h
def okD (l:List Bk) (i:Nat) (h:i < l.length):Decidable (okP l i h):=by unfold okP;exact inferInstance
def treeD (l:List Bk):Decidable (treeP l):=@instDecidableAnd _ _ _ (@Nat.decidableBallLT l.length (okP l) (okD l))
def treeB (l:List Bk):Bool:=@decide (treeP l) (treeD l)
theorem treeB_yes {l:List Bk} (h:treeP l):treeB l=true:=by unfold treeB;exact @decide_eq_true _ (treeD l) h
theorem treeB_no {l:List Bk} (h:¬ treeP l):treeB l=false:=by unfold treeB;exact @decide_eq_false _ (treeD l) h
theorem treeP_of {l:List Bk} (h:treeB l=true):treeP l:=by unfold treeB at h;exact @of_decide_eq_true _ (treeD l) h
theorem tree_not {l:List Bk} {i:Nat} (hi:i < l.length) (h:¬ okP l i hi):treeB l=false:=treeB_no (fun t=>h (t.2 i hi))
theorem tree_big {l:List Bk} (h:400 < l.length):treeB l=false:=treeB_no (fun t=>by have:=t.1;omega)
def AscP (l:List Bk) (n:Nat):Prop:=∀ a b (ha:a < l.length) (hb:b < l.length),a < b->b < n->l[a].id < l[b].id
theorem asc_of {l:List Bk} {n:Nat} (h:∀ i (hi:i < l.length),i < n->okP l i hi):AscP l n:=by
  intro a b ha hb hab hbn
  induction b with
  | zero=>omega
  | succ b ih =>
    have hk:=(h (b+1) hb hbn).2.2.1 (by omega)
    simp only [Nat.add_sub_cancel] at hk
    by_cases e:a=b
    · subst e;exact hk
    · have:=ih (by omega) (by omega) (by omega)
      omega
theorem AscP.one {l:List Bk} {n:Nat} (h:AscP l n) {a b:Nat} (ha:a < l.length) (hb:b < l.length) (han:a < n) (hbn:b < n) (e:l[a].id=l[b].id):a=b:=by
  by_cases h1:a < b
  · have:=h a b ha hb h1 hbn;omega
  · by_cases h2:b < a
    · have:=h b a hb ha h2 han;omega
    · omega
def AtR (l:List Bk) (id r:Int):Prop :=
  (r=-1/\∀ j (h:j < l.length),l[j].id ≠ id)\/∃ j,∃ h:j < l.length,r=(j:Int)/\l[j].id=id/\∀ i (h2:i < l.length),i < j->l[i].id ≠ id
theorem AtR.one {l:List Bk} {id r s:Int} (h:AtR l id r) (k:AtR l id s):r=s:=by
  rcases h with ⟨rfl,h⟩ | ⟨i,hi,rfl,e,h⟩ <;> rcases k with ⟨rfl,k⟩ | ⟨j,hj,rfl,f,k⟩
  · rfl
  · exact absurd f (h j hj)
  · exact absurd e (k i hi)
  · by_cases h1:i < j
    · exact absurd e (k i hi h1)
    · by_cases h2:j < i
      · exact absurd f (h j hj h2)
      · omega
def atI:List Bk->Int->Int
  | [],_=>-1
  | b :: l,id=>if b.id=id then 0 else if atI l id=-1 then -1 else atI l id+1
theorem atI_is (l:List Bk) (id:Int):AtR l id (atI l id):=by
  induction l with
  | nil=>exact .inl ⟨rfl,fun j h=>by simp at h⟩
  | cons b l ih =>
    unfold atI
    by_cases e:b.id=id
    · rw [if_pos e];exact .inr ⟨0,by simp,rfl,e,fun i _ h=>by omega⟩
    · rw [if_neg e]
      obtain ⟨h1,h⟩ | ⟨j,hj,h1,f,h⟩:=ih
      · rw [h1,if_pos rfl]
        refine .inl ⟨rfl,fun j hj=>?_⟩
        cases j with
        | zero=>exact e
        | succ j=>exact h j (by simpa using hj)
      · rw [h1,if_neg (by omega)]
        refine .inr ⟨j+1,by simpa using hj,by omega,f,fun i hi hij=>?_⟩
        cases i with
        | zero=>exact e
        | succ i=>exact h i (by simpa using hi) (by omega)
theorem atI_eq {l:List Bk} {id r:Int} (h:AtR l id r):atI l id=r:=(atI_is l id).one h
theorem atI_asc {l:List Bk} (h:AscP l l.length) {j:Nat} (hj:j < l.length):atI l l[j].id=(j:Int) :=
  atI_eq (.inr ⟨j,hj,rfl,rfl,fun i hi hij e=>by have:=h i j hi hj hij hj;omega⟩)
theorem ok_by {l:List Bk} {i:Nat} (hi:i < l.length) (hasc:AscP l i) (hB:blB l[i]=true) (hE:l[i].ep=(l[0]'(by omega)).ep) (hP:0 < i->(l[i - 1]'(by omega)).id < l[i].id)
    (hn:rootB l[i].qr l[i].qb l[i].qw=false) {r:Int} (hr:AtR (l.take i) l[i].qb r):okP l i hi ↔ ∃ k,∃ hk:k < i,r=(k:Int)/\(l[k]'(by omega)).rd=l[i].qr:=by
  constructor
  · rintro ⟨_,_,_,h | ⟨k,hk,e,f⟩⟩
    · rw [hn] at h;cases h
    · rcases hr with ⟨rfl,h⟩ | ⟨j,hj,rfl,g,h⟩
      · exact absurd (by rw [List.getElem_take];exact e) (h k (by simp;omega))
      · have hj2:j < i:=by simp at hj;omega
        have:j=k:=hasc.one (by omega) (by omega) hj2 hk (by rw [e];simpa using g)
        subst this
        exact ⟨j,hj2,rfl,f⟩
  · rintro ⟨k,hk,rfl,f⟩
    refine ⟨hB,hE,hP,.inr ⟨k,hk,?_,f⟩⟩
    rcases hr with ⟨h,_⟩ | ⟨j,hj,e,g,_⟩
    · omega
    · obtain rfl:k=j:=by omega
      simpa using g
theorem RdKs.take {w:World} {a:Option Addr} {cap:Nat} {l:List Bk} (h:RdKs w (.slice a l.length cap) l) (k:Nat) (hk:k<=l.length):RdKs w (.slice a k cap) (l.take k):=by
  rcases h with ⟨a',cap',e,rfl,hn⟩ | ⟨b,off,cap',h0,e,h1,h2,h3,h4⟩
  · simp only [Value.slice.injEq] at e
    obtain ⟨rfl,-,rfl⟩:=e
    obtain rfl:k=0:=by simpa using hk
    exact .inl ⟨_,_,rfl,rfl,hn⟩
  · simp only [Value.slice.injEq] at e
    obtain ⟨rfl,-,rfl⟩:=e
    by_cases hz:k=0
    · subst hz;exact .inl ⟨_,_,rfl,by simp,fun h=>by cases h⟩
    · have hl:(l.take k).length=k:=by simp;omega
      refine .inr ⟨b,off,cap,?_,by rw [hl],by omega,h2,h3,fun i hi=>?_⟩
      · intro e;rw [e] at hl;simp at hl;omega
      · rw [hl] at hi
        obtain ⟨bv,p,q⟩:=h4 i (by omega)
        exact ⟨bv,by simpa using p,by simpa using q⟩
theorem specAt_any (v:Value) (l:List Bk) (id:Int) (w:World) (hr:RdKs w v l) (hl:l.length<=4000000) :
    Calls Tryz.prog 73 #[v,.int .i64 id] w fun e w'=>e=.returned (.int .i64 (atI l id))/\w'=w:=by
  rcases hr with ⟨a,cap,rfl,rfl,-⟩ | ⟨b,off,cap,h0,rfl,h1,h2,h3,h4⟩
  · have HX:=hide (atI_eq (l:=[]) (id:=id) (.inl ⟨rfl,fun j h=>by simp at h⟩))
    go_enter Tryz.func73,Tryz.ntmps73
    go_wp2
    refine wp_loop_rounds 1 ?_
    rw [rounds_succ]
    go_wp2
    go_ret
    exact ⟨ret_int HX.out.symm,rfl⟩
  · have H4 := hide h4
    clear h4 h0
    go_enter Tryz.func73,Tryz.ntmps73
    go_wp2
    go_loopw [5] (fun i wr=>∃ k:Nat,k<=l.length/\i=.int .i64 k/\(∀ j (h:j < l.length),j < k->l[j].id ≠ id)/\wr=w) (fun i _=>l.length - (intOf i).toNat)
    case atStart=>exact ⟨0,Nat.zero_le _,rfl,fun j _ h=>by omega,rfl⟩
    case round =>
      obtain ⟨k,hk,rfl,hno,rfl⟩:=hrel
      have Hno:=hide hno
      clear hno
      by_cases hlt:k < l.length
      · obtain ⟨lv,hat,-⟩:=H4.out k hlt
        have c0:=hat.cells.1
        clear hat
        have hli:(k:Int) < (l.length:Int):=by omega
        by_cases he:l[k].id=id
        · have HX:=hide (atI_eq (l:=l) (id:=id) (.inr ⟨k,hlt,rfl,he,Hno.out⟩))
          rw [he] at c0
          clear he
          go_wp2
          go_ret
          exact ⟨ret_int HX.out.symm,rfl⟩
        · have HY:Hid (∀ j (h:j < l.length),j < k+1->l[j].id ≠ id):=hide (fun j h hj=>by
            by_cases e:j=k
            · subst e;exact he
            · exact Hno.out j h (by omega))
          generalize l[k].id=d at c0 he
          go_wp2
          go_roundw
          case rel=>exact ⟨k+1,by omega,by go_num,HY.out,by first | trivial | rfl⟩
          case measure=>simp [intOf];omega
      · have HX:=hide (atI_eq (l:=l) (id:=id) (.inl ⟨rfl,fun j h=>Hno.out j h (by omega)⟩))
        go_wp2
        go_ret
        exact ⟨ret_int HX.out.symm,rfl⟩
theorem firstOf_any (l:List Bk) (a:Option Addr) (cap:Nat) (id:Int) (w:World) (hr:RdKs w (.slice a l.length cap) l) (hl:l.length<=4000000) :
    Calls Tryz.prog 61 #[.slice a l.length cap,.int .i64 id] w fun e w'=>((atI l id < 0/\e=.returned (.pointer none))\/∃ k b off,atI l id=((k:Nat):Int)/\k < l.length/\a=some ⟨b,off,none⟩/\e=.returned (.pointer (some ⟨b,off+k * 14,none⟩)))/\w'=w:=by
  by_cases h0:l.length=0
  · have e:l=[]:=List.length_eq_zero_iff.1 h0
    subst e
    have HX:Hid (atI [] id < 0):=hide (by rw [atI_eq (l:=[]) (id:=id) (.inl ⟨rfl,fun j h=>by simp at h⟩)];omega)
    clear hr h0
    go_enter Tryz.func61,Tryz.ntmps61
    go_wp2
    refine wp_loop_rounds 1 ?_
    rw [rounds_succ]
    go_wp2
    go_ret
    exact ⟨.inl ⟨HX.out,rfl⟩,rfl⟩
  · obtain ⟨b,off,rfl,h3,hcell⟩:∃ b off,a=some ⟨b,off,none⟩/\b < w.heap.size/\∀ i (h:i < l.length),∃ bv,BkAt w b (off+i * 14) l[i] bv/\RdK w l[i] bv:=by
      rcases hr with ⟨a',cap',e,rfl,hn⟩ | ⟨b,off,cap',h0,e,h1,h2,h3,h4⟩
      · simp at h0
      · simp only [Value.slice.injEq] at e
        exact ⟨b,off,e.1,h3,h4⟩
    have H4:=hide hcell
    clear hcell h0 hr
    go_enter Tryz.func61,Tryz.ntmps61
    go_wp2
    go_loopw [8] (fun i wr=>∃ k:Nat,k<=l.length/\i=.int .i64 k/\(∀ j (h:j < l.length),j < k->l[j].id ≠ id)/\wr=w) (fun i _=>l.length - (intOf i).toNat)
    case atStart=>exact ⟨0,Nat.zero_le _,rfl,fun j _ h=>by omega,rfl⟩
    case round =>
      obtain ⟨k,hk,rfl,hno,rfl⟩:=hrel
      have Hno:=hide hno
      clear hno
      by_cases hlt:k < l.length
      · obtain ⟨lv,hat,-⟩:=H4.out k hlt
        have c0:=hat.cells.1
        clear hat
        have hli:(k:Int) < (l.length:Int):=by omega
        by_cases he:l[k].id=id
        · have HX:=hide (atI_eq (l:=l) (id:=id) (.inr ⟨k,hlt,rfl,he,Hno.out⟩))
          rw [he] at c0
          clear he
          go_wp2
          go_ret
          exact ⟨.inr ⟨k,b,off,HX.out,hlt,rfl,rfl⟩,rfl⟩
        · have HY:Hid (∀ j (h:j < l.length),j < k+1->l[j].id ≠ id):=hide (fun j h hj=>by
            by_cases e:j=k
            · subst e;exact he
            · exact Hno.out j h (by omega))
          generalize l[k].id=d at c0 he
          go_wp2
          go_roundw
          case rel=>exact ⟨k+1,by omega,by go_num,HY.out,by first | trivial | rfl⟩
          case measure=>simp [intOf];omega
      · have HX:Hid (atI l id < 0):=hide (by rw [atI_eq (l:=l) (id:=id) (.inl ⟨rfl,fun j h=>Hno.out j h (by omega)⟩)];omega)
        go_wp2
        go_ret
        exact ⟨.inl ⟨HX.out,rfl⟩,rfl⟩
theorem toList_inj5 {t:ByteArray} (h:t.toList=[]):t=ByteArray.empty:=by
  rw [ByteArray.toList_eq] at h
  exact ByteArray.ext (Array.toList_inj.1 h)
theorem specTxOk_any (t:Tx5) (w:World) (hf:t.2.1.size<=maxLen) (ht:t.2.2.1.size<=maxLen) :
    Calls Tryz.prog 154 #[txV t] w fun e w'=>e=.returned (.bool (txB t))/\Below w.heap.size w w':=by
  obtain ⟨k,f,tO,am,no⟩:=t
  simp only [txV] at *
  obtain ⟨w0,hw0⟩:∃ w0,w.alloc (.cells #[.int .i64 k,.string f,.string tO,.int .i64 am,.int .i64 no] 35)=w0:=⟨_,rfl⟩
  have HB:Hid (Below w.heap.size w w0):=hide (by rw [<- hw0];exact (Below.refl _ w).alloc (Nat.le_refl _) _)
  have hk:w0.heap[w.heap.size]?=some (.cells #[.int .i64 k,.string f,.string tO,.int .i64 am,.int .i64 no] 35 (0,0)):=by rw [<- hw0];exact heap_alloc_new w _
  have k0:w0.cell? ⟨w.heap.size,0,none⟩=some (.int .i64 k):=by simp [World.cell?,hk]
  have k1:w0.cell? ⟨w.heap.size,1,none⟩=some (.string f):=by simp [World.cell?,hk]
  have k2:w0.cell? ⟨w.heap.size,2,none⟩=some (.string tO):=by simp [World.cell?,hk]
  have k3:w0.cell? ⟨w.heap.size,3,none⟩=some (.int .i64 am):=by simp [World.cell?,hk]
  have k4:w0.cell? ⟨w.heap.size,4,none⟩=some (.int .i64 no):=by simp [World.cell?,hk]
  clear hk
  have Hx:Hid (txB (k,f,tO,am,no)=(nmB f && (inB am 1 1000000 && (inB no 0 10000 && (if k=1 then nmB tO else (inB k 2 3 && decide (tO=ByteArray.empty))))))):=hide rfl
  generalize txB (k,f,tO,am,no)=X at Hx
  cases e0:nmB f
  · rw [e0,Bool.false_and] at Hx
    go_enter Tryz.func154,Tryz.ntmps154
    go_wp2_with (first
      | (go_at_call 182;refine (specNameOk_any _ _ (by assumption)).mono ?_;rintro e w0 ⟨rfl,rfl⟩)
      | (go_at_call 181;refine (l1In_any _ _ _ _).mono ?_;rintro e w0 ⟨rfl,rfl⟩))
    go_ret
    exact ⟨ret_bool Hx.out.symm,HB.out⟩
  · cases e1:inB am 1 1000000
    · rw [e0,e1,Bool.true_and,Bool.false_and] at Hx
      go_enter Tryz.func154,Tryz.ntmps154
      go_wp2_with (first
        | (go_at_call 182;refine (specNameOk_any _ _ (by assumption)).mono ?_;rintro e w0 ⟨rfl,rfl⟩)
        | (go_at_call 181;refine (l1In_any _ _ _ _).mono ?_;rintro e w0 ⟨rfl,rfl⟩))
      go_ret
      exact ⟨ret_bool Hx.out.symm,HB.out⟩
    · cases e2:inB no 0 10000
      · rw [e0,e1,e2,Bool.true_and,Bool.true_and,Bool.false_and] at Hx
        go_enter Tryz.func154,Tryz.ntmps154
        go_wp2_with (first
          | (go_at_call 182;refine (specNameOk_any _ _ (by assumption)).mono ?_;rintro e w0 ⟨rfl,rfl⟩)
          | (go_at_call 181;refine (l1In_any _ _ _ _).mono ?_;rintro e w0 ⟨rfl,rfl⟩))
        go_ret
        exact ⟨ret_bool Hx.out.symm,HB.out⟩
      · rw [e0, e1,e2,Bool.true_and,Bool.true_and,Bool.true_and] at Hx
        by_cases hk1:k=1
        · rw [if_pos hk1] at Hx
          subst hk1
          go_enter Tryz.func154,Tryz.ntmps154
          go_wp2_with (first
            | (go_at_call 182;refine (specNameOk_any _ _ (by assumption)).mono ?_;rintro e w0 ⟨rfl,rfl⟩)
            | (go_at_call 181;refine (l1In_any _ _ _ _).mono ?_;rintro e w0 ⟨rfl,rfl⟩))
          go_ret
          exact ⟨ret_bool Hx.out.symm,HB.out⟩
        · rw [if_neg hk1] at Hx
          have hkb:(k == 1)=false:=by rw [beq_eq_false_iff_ne];exact hk1
          clear hk1
          cases e3:inB k 2 3
          · rw [e3,Bool.false_and] at Hx
            go_enter Tryz.func154,Tryz.ntmps154
            go_wp2_with (first
              | (go_at_call 182;refine (specNameOk_any _ _ (by assumption)).mono ?_;rintro e w0 ⟨rfl,rfl⟩)
              | (go_at_call 181;refine (l1In_any _ _ _ _).mono ?_;rintro e w0 ⟨rfl,rfl⟩))
            go_ret
            exact ⟨ret_bool Hx.out.symm,HB.out⟩
          · by_cases e4:tO=ByteArray.empty
            · rw [e3,decide_eq_true e4,Bool.true_and] at Hx
              subst e4
              go_enter Tryz.func154,Tryz.ntmps154
              go_wp2_with (first
                | (go_at_call 182;refine (specNameOk_any _ _ (by assumption)).mono ?_;rintro e w0 ⟨rfl,rfl⟩)
                | (go_at_call 181;refine (l1In_any _ _ _ _).mono ?_;rintro e w0 ⟨rfl,rfl⟩))
              go_ret
              exact ⟨ret_bool Hx.out.symm,HB.out⟩
            · rw [e3,decide_eq_false e4,Bool.true_and] at Hx
              have hne:tO.toList.isEmpty=false:=by
                cases h:tO.toList.isEmpty
                · rfl
                · exact absurd (toList_inj5 (List.isEmpty_iff.1 h)) e4
              clear e4
              go_enter Tryz.func154,Tryz.ntmps154
              go_wp2_with (first
                | (go_at_call 182;refine (specNameOk_any _ _ (by assumption)).mono ?_;rintro e w0 ⟨rfl,rfl⟩)
                | (go_at_call 181;refine (l1In_any _ _ _ _).mono ?_;rintro e w0 ⟨rfl,rfl⟩))
              go_ret
              exact ⟨ret_bool Hx.out.symm,HB.out⟩
end Go.Proofs.YtohachldbpejpaaGreatDoor
namespace Go.Proofs.YtohachldbpejpaaGreatDoor
open Go.RowKit Go.Sort
set_option linter.unusedVariables false
theorem specL9Qc_any (b:Bk) (v:Bv) (w:World) (hr:RdK w b v) (hf:FewK b) :
    Calls Tryz.prog 183 #[bkV b v] w fun e w'=>e=.returned (.bool (q9B b))/\Below w.heap.size w w':=by
  have hlq:=hf.q
  have hsq:=hf.qs
  have HX:Hid (q9B b=(rootB b.qr b.qb b.qw || (inB b.qr 1 (wrap64 (b.rd - 1)) && (inB b.qb 0 (wrap64 (b.id - 1)) && nmsB b.qw)))):=hide rfl
  generalize q9B b=X at HX ⊢
  obtain ⟨id,ep,rd,mk,qr,qb,qw,tr,tw,th,ts,en,nx,rt⟩:=b
  obtain ⟨vq,vw,vh,vt,vn⟩:=v
  obtain ⟨hq,hw,hh,ht,hn⟩:=hr
  simp only [bkV] at *
  obtain ⟨aq,cq,rfl⟩:=hq.shape
  obtain ⟨aw,cw,rfl⟩:=hw.shape
  obtain ⟨ah,ch,rfl⟩:=hh.shape
  obtain ⟨at_,ct,rfl⟩:=ht.shape
  obtain ⟨an,cn,rfl⟩:=hn.shape
  clear hw hh ht hn hf
  obtain ⟨w1,hw1⟩:∃ x,w.alloc (.cells #[.int .i64 id,.int .i64 ep,.int .i64 rd,.string mk,.int .i64 qr,.int .i64 qb,.slice aq qw.length cq,.int .i64 tr,.slice aw tw.length cw,.slice ah th.length ch,.slice at_ ts.length ct,.bool en,.slice an nx.length cn,.string rt] 50)=x:=⟨_,rfl⟩
  have b1:Below w.heap.size w w1:=by rw [<- hw1];exact (Below.refl _ w).alloc (Nat.le_refl _) _
  have k1:Blk w1 w.heap.size 50 [.int .i64 id,.int .i64 ep,.int .i64 rd,.string mk,.int .i64 qr,.int .i64 qb,.slice aq qw.length cq,.int .i64 tr,.slice aw tw.length cw,.slice ah th.length ch,.slice at_ ts.length ct,.bool en,.slice an nx.length cn,.string rt]:=by rw [<- hw1];exact Blk.new w _ _
  have s1:w1.heap.size=w.heap.size+1:=by rw [<- hw1];simp
  obtain ⟨w2,hw2⟩:∃ x,w1.alloc (.cells #[.int .i64 qr,.int .i64 qb,.slice aq qw.length cq] 44)=x:=⟨_,rfl⟩
  have b2:Below w1.heap.size w1 w2:=by rw [<- hw2];exact (Below.refl _ w1).alloc (Nat.le_refl _) _
  have k2:Blk w2 (w.heap.size+1) 44 [.int .i64 qr,.int .i64 qb,.slice aq qw.length cq]:=by rw [<- hw2,<- s1];exact Blk.new w1 _ _
  have hb2:Below w.heap.size w w2:=b1.trans (b2.mono b1.size)
  have HR:=hide (specL8Root_any qr qb (.slice aq qw.length cq) qw w2 (hq.below hb2 (Nat.le_refl _)) hlq)
  have HN:=hide (fun V (hV:Below w.heap.size w V)=>specNamesOk_any (.slice aq qw.length cq) qw V (hq.below hV (Nat.le_refl _)) hlq hsq)
  generalize rootB qr qb qw=R0 at HX HR
  generalize nmsB qw=N0 at HX HN
  have e1:IntKind.i64.wrap (rd - 1)=wrap64 (rd - 1):=by rw [IntKind.wrap_i64];unfold wrap64;omega
  have e2:IntKind.i64.wrap (id - 1)=wrap64 (id - 1):=by rw [IntKind.wrap_i64];unfold wrap64;omega
  generalize wrap64 (rd - 1)=D1 at HX e1
  generalize wrap64 (id - 1)=D2 at HX e2
  simp only [qcV] at HR
  have x4:=k1.cell 4
  have x5:=k1.cell 5
  have x6:=k1.cell 6
  have y0:=k2.cell 0
  have y1:=k2.cell 1
  have y2:=k2.cell 2
  simp only [List.getElem?_cons_zero,List.getElem?_cons_succ] at x4 x5 x6 y0 y1 y2
  have K1:=hide (k1.below b2 (by omega))
  have K2:=hide k2
  have HB2:=hide hb2
  clear hq hsq k1 k2 b1 b2 hb2
  go_enter Tryz.func183,Tryz.ntmps183
  go_wp2_with fail
  refine HR.out.mono ?_
  rintro e w3 ⟨rfl,hb3⟩
  have hB3:=HB2.out.trans (hb3.mono HB2.out.size)
  have k13:=K1.out.below hb3 K1.out.lt
  have k23:=K2.out.below hb3 K2.out.lt
  have HN3:=hide (HN.out w3 hB3)
  clear x4 x5 x6 y0 y1 y2 hw1 hw2 HN hb3
  have x0:=k13.cell 0
  have x2:=k13.cell 2
  have y0:=k23.cell 0
  have y1:=k23.cell 1
  have y2:=k23.cell 2
  simp only [List.getElem?_cons_zero,List.getElem?_cons_succ] at x0 x2 y0 y1 y2
  clear k13 k23 K1 K2 s1
  cases R0
  · rw [Bool.false_or] at HX
    cases h1:inB qr 1 D1
    · rw [h1,Bool.false_and] at HX
      go_wp2_with (go_at_call 181;refine (l1In_any _ _ _ _).mono ?_;rintro e w4 ⟨rfl,rfl⟩)
      go_ret
      exact ⟨ret_bool HX.out.symm,hB3⟩
    · rw [h1,Bool.true_and] at HX
      cases h2:inB qb 0 D2
      · rw [h2,Bool.false_and] at HX
        go_wp2_with (go_at_call 181;refine (l1In_any _ _ _ _).mono ?_;rintro e w4 ⟨rfl,rfl⟩)
        go_ret
        exact ⟨ret_bool HX.out.symm,hB3⟩
      · rw [h2,Bool.true_and] at HX
        go_wp2_with (first
          | (go_at_call 181;refine (l1In_any _ _ _ _).mono ?_;rintro e w4 ⟨rfl,rfl⟩)
          | (go_at_call 216;refine HN3.out.mono ?_;rintro e w5 ⟨rfl,hb5⟩))
        go_ret
        exact ⟨ret_bool HX.out.symm,hB3.trans (hb5 _)⟩
  · rw [Bool.true_or] at HX
    go_wp2
    go_ret
    exact ⟨ret_bool HX.out.symm,hB3⟩
theorem specL9Tc_any (b:Bk) (v:Bv) (w:World) (hr:RdK w b v) (hf:FewK b) (hbd:-9223372036854775808<=b.tr/\b.tr<=9223372036854775807) :
    Calls Tryz.prog 184 #[bkV b v] w fun e w'=>e=.returned (.bool (t9B b))/\Below w.heap.size w w':=by
  have hlw:=hf.w
  have hlh:=hf.h
  have hsw:=hf.ws
  have HX:Hid (t9B b=(noneB b.tr b.tw b.th || (inB b.tr 1 (wrap64 (b.rd - 1)) && (nmsB b.tw && (decide (b.th.length=b.tw.length) && hisB b.tr b.th))))):=hide rfl
  generalize t9B b=X at HX ⊢
  obtain ⟨id,ep,rd,mk,qr,qb,qw,tr,tw,th,ts,en,nx,rt⟩:=b
  obtain ⟨vq,vw,vh,vt,vn⟩:=v
  obtain ⟨hq,hw,hh,ht,hn⟩:=hr
  simp only [bkV] at *
  obtain ⟨aq,cq,rfl⟩:=hq.shape
  obtain ⟨aw,cw,rfl⟩:=hw.shape
  obtain ⟨ah,ch,rfl⟩:=hh.shape
  obtain ⟨at_,ct,rfl⟩:=ht.shape
  obtain ⟨an,cn,rfl⟩:=hn.shape
  clear hq ht hn hf
  obtain ⟨w1,hw1⟩:∃ x,w.alloc (.cells #[.int .i64 id,.int .i64 ep,.int .i64 rd,.string mk,.int .i64 qr,.int .i64 qb,.slice aq qw.length cq,.int .i64 tr,.slice aw tw.length cw,.slice ah th.length ch,.slice at_ ts.length ct,.bool en,.slice an nx.length cn,.string rt] 50)=x:=⟨_,rfl⟩
  have b1:Below w.heap.size w w1:=by rw [<- hw1];exact (Below.refl _ w).alloc (Nat.le_refl _) _
  have k1:Blk w1 w.heap.size 50 [.int .i64 id,.int .i64 ep,.int .i64 rd,.string mk,.int .i64 qr,.int .i64 qb,.slice aq qw.length cq,.int .i64 tr,.slice aw tw.length cw,.slice ah th.length ch,.slice at_ ts.length ct,.bool en,.slice an nx.length cn,.string rt]:=by rw [<- hw1];exact Blk.new w _ _
  have s1:w1.heap.size=w.heap.size+1:=by rw [<- hw1];simp
  obtain ⟨w2,hw2⟩:∃ x,w1.alloc (.cells #[.int .i64 tr,.slice aw tw.length cw,.slice ah th.length ch] 47)=x:=⟨_,rfl⟩
  have b2:Below w1.heap.size w1 w2:=by rw [<- hw2];exact (Below.refl _ w1).alloc (Nat.le_refl _) _
  have k2:Blk w2 (w.heap.size+1) 47 [.int .i64 tr,.slice aw tw.length cw,.slice ah th.length ch]:=by rw [<- hw2,<- s1];exact Blk.new w1 _ _
  have hb2:Below w.heap.size w w2:=b1.trans (b2.mono b1.size)
  have HR:=hide (specL8None_any tr (.slice aw tw.length cw) (.slice ah th.length ch) tw th w2 (hw.below hb2 (Nat.le_refl _)) (hh.below hb2 (Nat.le_refl _)) hlw hlh)
  have HN:=hide (fun V (hV:Below w.heap.size w V)=>specNamesOk_any (.slice aw tw.length cw) tw V (hw.below hV (Nat.le_refl _)) hlw hsw)
  generalize noneB tr tw th=R0 at HX HR
  generalize nmsB tw=N0 at HX HN
  have e1:IntKind.i64.wrap (rd - 1)=wrap64 (rd - 1):=by rw [IntKind.wrap_i64];unfold wrap64;omega
  generalize wrap64 (rd - 1)=D1 at HX e1
  simp only [tcV] at HR
  have x4:=k1.cell 7
  have x5:=k1.cell 8
  have x6:=k1.cell 9
  have y0:=k2.cell 0
  have y1:=k2.cell 1
  have y2:=k2.cell 2
  simp only [List.getElem?_cons_zero,List.getElem?_cons_succ] at x4 x5 x6 y0 y1 y2
  have K1:=hide (k1.below b2 (by omega))
  have K2:=hide k2
  have HB2:=hide hb2
  have Hh:=hide hh
  clear hw hh hsw k1 k2 b1 b2 hb2
  go_enter Tryz.func184,Tryz.ntmps184
  go_wp2_with fail
  refine HR.out.mono ?_
  rintro e w3 ⟨rfl,hb3⟩
  have hB3:=HB2.out.trans (hb3.mono HB2.out.size)
  have k13:=K1.out.below hb3 K1.out.lt
  have k23:=K2.out.below hb3 K2.out.lt
  have HN3:=hide (HN.out w3 hB3)
  clear x4 x5 x6 y0 y1 y2 hw1 hw2 HN hb3
  have x2:=k13.cell 2
  have y0:=k23.cell 0
  have y1:=k23.cell 1
  have y2:=k23.cell 2
  simp only [List.getElem?_cons_zero,List.getElem?_cons_succ] at x2 y0 y1 y2
  have K23:=hide k23
  clear k13 k23 K1 K2 s1
  cases R0
  · rw [Bool.false_or] at HX
    cases h1:inB tr 1 D1
    · rw [h1,Bool.false_and] at HX
      go_wp2_with (go_at_call 181;refine (l1In_any _ _ _ _).mono ?_;rintro e w4 ⟨rfl,rfl⟩)
      go_ret
      exact ⟨ret_bool HX.out.symm,hB3⟩
    · rw [h1, Bool.true_and] at HX
      have Hr1:Hid (1<=tr):=hide (by unfold inB at h1;simp at h1;exact h1.1)
      cases N0
      · rw [Bool.false_and] at HX
        go_wp2_with (first
          | (go_at_call 181;refine (l1In_any _ _ _ _).mono ?_;rintro e w4 ⟨rfl,rfl⟩)
          | (go_at_call 216;refine HN3.out.mono ?_;rintro e w5 ⟨rfl,hb5⟩))
        go_ret
        exact ⟨ret_bool HX.out.symm,hB3.trans (hb5 _)⟩
      · rw [Bool.true_and] at HX
        by_cases hlen:th.length=tw.length
        · rw [decide_eq_true hlen,Bool.true_and] at HX
          have hli:((th.length:Int) != (tw.length:Int))=false:=by rw [hlen];simp
          clear hlen
          go_wp2_with (first
            | (go_at_call 181;refine (l1In_any _ _ _ _).mono ?_;rintro e w4 ⟨rfl,rfl⟩)
            | (go_at_call 216;refine HN3.out.mono ?_;rintro e w5 ⟨rfl,hb5⟩;have hB5:=hB3.trans (hb5 _);have k5:=K23.out.below (hb5 _) K23.out.lt;have t1:=k5.cell 1;have t2:=k5.cell 2;simp only [List.getElem?_cons_zero,List.getElem?_cons_succ] at t1 t2))
          have K5:=hide k5
          have HB5:=hide hB5
          clear k5 x2 y0 y1 y2 t1 t2 hb5 hB5 hB3 hli h1
          go_loopw [4] (fun iv wr=>∃ i:Nat,i<=th.length/\iv=.int .i64 (i:Int)/\(∀ j (hj:j < th.length),j < i->inB th[j] 0 (tr - 1)=true)/\Below w5.heap.size w5 wr) (fun iv _=>th.length - (intOf iv).toNat)
          case atStart=>exact ⟨0,Nat.zero_le _,rfl,fun j _ hj=>by omega,Below.refl _ _⟩
          case round =>
            obtain ⟨i,hi,rfl,hok,hb⟩:=hrel
            have kr:=K5.out.below hb K5.out.lt
            have t0:=kr.cell 0
            have t2:=kr.cell 2
            simp only [List.getElem?_cons_zero,List.getElem?_cons_succ] at t0 t2
            have Hok:=hide hok
            have HBr:=hide (HB5.out.trans (hb.mono HB5.out.size))
            clear hok kr
            by_cases hlt:i < th.length
            · obtain ⟨bh,oh,rfl,hc1,hc2,hbh,hch⟩:=Hh.out.at hlt
              have c0:=(HBr.out.cell (p:=⟨bh,oh+i,none⟩) hbh).trans hch
              have hli:(i:Int) < (th.length:Int):=by omega
              have Hno:=hide (his_no tr th i hlt)
              have Hnx:Hid (inB th[i] 0 (tr - 1)=true->∀ j (hj:j < th.length),j < i+1->inB th[j] 0 (tr - 1)=true):=hide (fun h j hj hji=>by
                by_cases e:j=i
                · subst e;exact h
                · exact Hok.out j hj (by omega))
              generalize th[i]=x at c0 hch Hno Hnx
              have hr1:=Hr1.out
              have hwr:IntKind.i64.wrap (tr - 1)=tr - 1:=by rw [IntKind.wrap_i64];omega
              have Hb:=hide hb
              have g0:=cell_regrown c0
              have g1:=cell_regrown t0
              have g2:=cell_regrown t2
              clear hb hch hr1 c0
              cases hx:inB x 0 (tr - 1)
              · have Hf:=hide (HX.out.trans (Hno.out hx))
                have HI:=hide (fun (d:Nat) (os:Array Obj)=>sameC_regrown (l1In_any x 0 (tr - 1) (grow (redrawn wr d) os)))
                rw [hx] at HI
                clear hx Hnx
                go_wp2
                refine wp_region_quiet_below (by kernel_rfl) (by kernel_rfl) ?_
                repeat (go_big_quiet_step ((go_at_call 181;exact HI.out _ _)))
                refine wpQuiet_nil ?_
                intro _ hw'
                obtain ⟨⟨dq,osq⟩,hw''⟩:=hw'
                subst hw''
                go_wp2
                go_ret
                exact ⟨ret_bool Hf.out.symm,HBr.out.trans ((below_regrown wr dq osq).mono HBr.out.size)⟩
              · have Hnx:=hide (Hnx.out hx)
                have HI:=hide (fun (d:Nat) (os:Array Obj)=>sameC_regrown (l1In_any x 0 (tr - 1) (grow (redrawn wr d) os)))
                rw [hx] at HI
                clear hx Hno
                go_wp2
                refine wp_region_quiet_below (by kernel_rfl) (by kernel_rfl) ?_
                repeat (go_big_quiet_step ((go_at_call 181;exact HI.out _ _)))
                refine wpQuiet_nil ?_
                intro _ hw'
                obtain ⟨⟨dq,osq⟩,hw''⟩:=hw'
                subst hw''
                go_wp2
                go_roundw
                case rel=>exact ⟨i+1,by omega,by go_num,Hnx.out,Hb.out.trans ((below_regrown wr dq osq).mono Hb.out.size)⟩
                case measure=>simp [intOf];omega
            · have Hf:=hide (HX.out.trans (his_yes tr th (fun j hj=>Hok.out j hj (by omega))))
              clear hb
              go_wp2
              go_ret
              exact ⟨ret_bool Hf.out.symm,HBr.out⟩
        · rw [decide_eq_false hlen,Bool.false_and] at HX
          have hli:((th.length:Int) != (tw.length:Int))=true:=by rw [bne_iff_ne];omega
          clear hlen
          go_wp2_with (first
            | (go_at_call 181;refine (l1In_any _ _ _ _).mono ?_;rintro e w4 ⟨rfl,rfl⟩)
            | (go_at_call 216;refine HN3.out.mono ?_;rintro e w5 ⟨rfl,hb5⟩;have hB5:=hB3.trans (hb5 _);have k5:=K23.out.below (hb5 _) K23.out.lt;have t1:=k5.cell 1;have t2:=k5.cell 2;simp only [List.getElem?_cons_zero,List.getElem?_cons_succ] at t1 t2))
          go_ret
          exact ⟨ret_bool HX.out.symm,hB5⟩
  · rw [Bool.true_or] at HX
    go_wp2
    go_ret
    exact ⟨ret_bool HX.out.symm,hB3⟩
end Go.Proofs.YtohachldbpejpaaGreatDoor
