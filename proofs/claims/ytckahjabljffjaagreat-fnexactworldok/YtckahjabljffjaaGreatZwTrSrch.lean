/- A row of limbs, and a limb found in it by halving. -/
import Derived.Test.YtckahjabljffjaaGreatZwTxMarkC
set_option maxRecDepth 20000
set_option maxHeartbeats 2000000
namespace Go.Proofs.YtckahjabljffjaaGreat
open Go.RowKit
set_option linter.unusedVariables false
def okP (l:List Bk) (i:Nat) (h:i < l.length):Prop :=
  blB l[i]=true/\l[i].ep=(l[0]'(by omega)).ep/\(0 < i->(l[i - 1]'(by omega)).id < l[i].id) /\
    (rootB l[i].qr l[i].qb l[i].qw=true\/∃ k,∃ hk:k < i,(l[k]'(by omega)).id=l[i].qb/\(l[k]'(by omega)).rd=l[i].qr)
def treeP (l:List Bk):Prop:=l.length<=400/\∀ i (h:i < l.length),okP l i h
def okD (l:List Bk) (i:Nat) (h:i < l.length):Decidable (okP l i h):=by unfold okP;exact inferInstance
def treeD (l:List Bk):Decidable (treeP l):=@instDecidableAnd _ _ _ (@Nat.decidableBallLT l.length (okP l) (okD l))
def treeB (l:List Bk):Bool:=@decide (treeP l) (treeD l)
theorem treeB_yes {l:List Bk} (h:treeP l):treeB l=true:=by unfold treeB;exact @decide_eq_true _ (treeD l) h
theorem treeB_no {l:List Bk} (h:¬ treeP l):treeB l=false:=by unfold treeB;exact @decide_eq_false _ (treeD l) h
theorem treeP_of {l:List Bk} (h:treeB l=true):treeP l:=by unfold treeB at h;exact @of_decide_eq_true _ (treeD l) h
theorem tree_not {l:List Bk} {i:Nat} (hi:i < l.length) (h:¬ okP l i hi):treeB l=false:=treeB_no (fun t=>h (t.2 i hi))
theorem tree_big {l:List Bk} (h:400 < l.length):treeB l=false:=treeB_no (fun t=>by have:=t.1;omega)
def AscP (l:List Bk) (n:Nat):Prop:=∀ a b (ha:a < l.length) (hb:b < l.length),a < b->b < n->l[a].id < l[b].id
theorem asc_of {l:List Bk} {n:Nat} (h:∀ i (hi:i < l.length),i < n->okP l i hi):AscP l n:=by
  intro a b ha hb hab hbn
  induction b with
  | zero=>omega
  | succ b ih =>
    have hk:=(h (b+1) hb hbn).2.2.1 (by omega)
    simp only [Nat.add_sub_cancel] at hk
    by_cases e:a=b
    · subst e;exact hk
    · have:=ih (by omega) (by omega) (by omega)
      omega
theorem AscP.one {l:List Bk} {n:Nat} (h:AscP l n) {a b:Nat} (ha:a < l.length) (hb:b < l.length) (han:a < n) (hbn:b < n) (e:l[a].id=l[b].id):a=b:=by
  by_cases h1:a < b
  · have:=h a b ha hb h1 hbn;omega
  · by_cases h2:b < a
    · have:=h b a hb ha h2 han;omega
    · omega
def AtR (l:List Bk) (id r:Int):Prop :=
  (r=-1/\∀ j (h:j < l.length),l[j].id ≠ id)\/∃ j,∃ h:j < l.length,r=(j:Int)/\l[j].id=id/\∀ i (h2:i < l.length),i < j->l[i].id ≠ id
theorem AtR.one {l:List Bk} {id r s:Int} (h:AtR l id r) (k:AtR l id s):r=s:=by
  rcases h with ⟨rfl,h⟩ | ⟨i,hi,rfl,e,h⟩ <;> rcases k with ⟨rfl,k⟩ | ⟨j,hj,rfl,f,k⟩
  · rfl
  · exact absurd f (h j hj)
  · exact absurd e (k i hi)
  · by_cases h1:i < j
    · exact absurd e (k i hi h1)
    · by_cases h2:j < i
      · exact absurd f (h j hj h2)
      · omega
def atI:List Bk->Int->Int
  | [],_=>-1
  | b :: l,id=>if b.id=id then 0 else if atI l id=-1 then -1 else atI l id+1
theorem atI_is (l:List Bk) (id:Int):AtR l id (atI l id):=by
  induction l with
  | nil=>exact .inl ⟨rfl,fun j h=>by simp at h⟩
  | cons b l ih =>
    unfold atI
    by_cases e:b.id=id
    · rw [if_pos e];exact .inr ⟨0,by simp,rfl,e,fun i _ h=>by omega⟩
    · rw [if_neg e]
      obtain ⟨h1,h⟩ | ⟨j,hj,h1,f,h⟩:=ih
      · rw [h1,if_pos rfl]
        refine .inl ⟨rfl,fun j hj=>?_⟩
        cases j with
        | zero=>exact e
        | succ j=>exact h j (by simpa using hj)
      · rw [h1,if_neg (by omega)]
        refine .inr ⟨j+1,by simpa using hj,by omega,f,fun i hi hij=>?_⟩
        cases i with
        | zero=>exact e
        | succ i=>exact h i (by simpa using hi) (by omega)
theorem atI_eq {l:List Bk} {id r:Int} (h:AtR l id r):atI l id=r:=(atI_is l id).one h
theorem ok_by {l:List Bk} {i:Nat} (hi:i < l.length) (hasc:AscP l i) (hB:blB l[i]=true) (hE:l[i].ep=(l[0]'(by omega)).ep) (hP:0 < i->(l[i - 1]'(by omega)).id < l[i].id)
    (hn:rootB l[i].qr l[i].qb l[i].qw=false) {r:Int} (hr:AtR (l.take i) l[i].qb r):okP l i hi ↔ ∃ k,∃ hk:k < i,r=(k:Int)/\(l[k]'(by omega)).rd=l[i].qr:=by
  constructor
  · rintro ⟨_,_,_,h | ⟨k,hk,e,f⟩⟩
    · rw [hn] at h;cases h
    · rcases hr with ⟨rfl,h⟩ | ⟨j,hj,rfl,g,h⟩
      · exact absurd (by rw [List.getElem_take];exact e) (h k (by simp;omega))
      · have hj2:j < i:=by simp at hj;omega
        have:j=k:=hasc.one (by omega) (by omega) hj2 hk (by rw [e];simpa using g)
        subst this
        exact ⟨j,hj2,rfl,f⟩
  · rintro ⟨k,hk,rfl,f⟩
    refine ⟨hB,hE,hP,.inr ⟨k,hk,?_,f⟩⟩
    rcases hr with ⟨h,_⟩ | ⟨j,hj,e,g,_⟩
    · omega
    · obtain rfl:k=j:=by omega
      simpa using g
def ptr (B:Nat):Value:=.pointer (some ⟨B,0,none⟩)
def limC (b:Bk) (v:Bv) (p:Value):List Value:=.int .i64 b.id :: (bkC b v ++ [p])
structure RdP (w:World) (v:Value) (Bs:List Nat) (ids:List Int):Prop where
  len:Bs.length=ids.length
  row:∃ a cap,v=.slice a Bs.length cap/\∀ i (h:i < Bs.length),∃ g off,a=some ⟨g,off,none⟩/\w.cell? ⟨g,off+i,none⟩=some (ptr Bs[i])
  at_:∀ i (h:i < Bs.length) (h2:i < ids.length),w.cell? ⟨Bs[i],0,none⟩=some (.int .i64 ids[i])
def cmpT (x y:Int):Int:=if x < y then -1 else if y < x then 1 else 0
theorem nanT_any (x:Int) (w:World):Calls Tryz.prog 239 #[.int .i64 x] w fun e w'=>e=.returned (.bool false)/\w'=w:=by
  go_enter Tryz.func239,Tryz.ntmps239
  go_wp2
  go_ret
  exact ⟨by simp,rfl⟩
theorem cmpT_any (x y:Int) (w:World):Calls Tryz.prog 230 #[.int .i64 x,.int .i64 y] w fun e w'=>e=.returned (.int .i64 (cmpT x y))/\w'=w:=by
  have Hd:Hid (cmpT x y=if x < y then -1 else if y < x then 1 else 0):=hide rfl
  generalize cmpT x y=X at Hd
  by_cases h1:x < y
  · rw [if_pos h1] at Hd
    go_enter Tryz.func230,Tryz.ntmps230
    go_wp2_with (go_at_call 239;refine (nanT_any _ _).mono ?_;rintro e w ⟨rfl,rfl⟩)
    go_ret
    exact ⟨ret_int Hd.out.symm,rfl⟩
  · rw [if_neg h1] at Hd
    by_cases h2:y < x
    · rw [if_pos h2] at Hd
      go_enter Tryz.func230,Tryz.ntmps230
      go_wp2_with (go_at_call 239;refine (nanT_any _ _).mono ?_;rintro e w ⟨rfl,rfl⟩)
      go_ret
      exact ⟨ret_int Hd.out.symm,rfl⟩
    · rw [if_neg h2] at Hd
      go_enter Tryz.func230,Tryz.ntmps230
      go_wp2_with (go_at_call 239;refine (nanT_any _ _).mono ?_;rintro e w ⟨rfl,rfl⟩)
      go_ret
      exact ⟨ret_int Hd.out.symm,rfl⟩
theorem atCmp_any (B:Nat) (x y:Int) (w:World) (h:w.cell? ⟨B,0,none⟩=some (.int .i64 x)) :
    Calls Tryz.prog 243 #[ptr B,.int .i64 y] w fun e w'=>e=.returned (.int .i64 (cmpT x y))/\w'=w:=by
  simp only [ptr]
  go_enter Tryz.func243,Tryz.ntmps243
  go_wp2_with fail
  refine (cmpT_any x y w).mono ?_
  rintro e w ⟨rfl,rfl⟩
  go_wp2
  go_ret
  exact ⟨rfl,rfl⟩
def SrP (ids:List Int) (y:Int) (p:Nat) (f:Bool):Prop:=(f=true/\∃ h:p < ids.length,ids[p]=y)\/(f=false/\∀ i (h:i < ids.length),ids[i] ≠ y)
theorem search_any (v:Value) (Bs:List Nat) (ids:List Int) (y:Int) (w:World) (hr:RdP w v Bs ids) (hasc:∀ a b (ha:a < ids.length) (hb:b < ids.length),a < b->ids[a] < ids[b]) (hn:Bs.length<=1000000) :
    Calls Tryz.prog 242 #[v,.int .i64 y,.func (.func 243) #[] #[]] w fun e w'=>∃ (p:Nat) (f:Bool),e=.returned (.tuple #[.int .i64 (p:Int),.bool f])/\SrP ids y p f/\w'=w:=by
  obtain ⟨hlen,⟨a,cap,rfl,hrow⟩,hat⟩:=hr
  have Hrow:=hide hrow
  have Hat:=hide hat
  have Hasc:=hide hasc
  have Hlen:=hide hlen
  clear hrow hat hasc hlen
  obtain ⟨n,hnn⟩:∃ n,Bs.length=n:=⟨_,rfl⟩
  have Hn:=hide hnn
  rw [hnn] at hn ⊢
  clear hnn
  go_enter Tryz.func242,Tryz.ntmps242
  go_wp2
  go_loopw [9,10] (fun iv jv wr=>∃ i j:Nat,i<=j/\j<=n/\iv=.int .i64 (i:Int)/\jv=.int .i64 (j:Int)/\(∀ t (h:t < ids.length),t < i->ids[t] < y)/\(∀ t (h:t < ids.length),j<=t->y<=ids[t])/\wr=w) (fun iv jv _=>(intOf jv).toNat - (intOf iv).toNat)
  case atStart=>exact ⟨0,n,Nat.zero_le _,Nat.le_refl _,rfl,rfl,fun t _ h=>by omega,fun t h h2=>by have:=Hlen.out;have:=Hn.out;omega,rfl⟩
  case round =>
    obtain ⟨i,j,hij,hjn,rfl,rfl,hlo,hhi,rfl⟩:=hrel
    have Hlo:=hide hlo
    have Hhi:=hide hhi
    clear hlo hhi
    by_cases hlt:i < j
    · have hmi:i<=((i+j) / 2):=by omega
      have hmj:((i+j) / 2) < j:=by omega
      have hmB:((i+j) / 2) < Bs.length:=by have:=Hn.out;omega
      have hmI:((i+j) / 2) < ids.length:=by have:=Hlen.out;omega
      obtain ⟨g,off,rfl,hc⟩:=Hrow.out ((i+j) / 2) hmB
      have hv:=Hat.out ((i+j) / 2) hmB hmI
      have e1:wrap64 ((i:Int)+(j:Int))=((i+j:Nat):Int):=by unfold wrap64;omega
      have hm0:(0:Int)<=(((i+j) / 2:Nat):Int):=by omega
      have hmn:(((i+j) / 2:Nat):Int) < (n:Int):=by omega
      have hij2:(i:Int) < (j:Int):=by omega
      have HC:=hide (atCmp_any Bs[((i+j) / 2)] ids[((i+j) / 2)] y wr hv)
      have HL:Hid (ids[((i+j) / 2)] < y->∀ t (h:t < ids.length),t < ((i+j) / 2)+1->ids[t] < y):=hide (fun h t ht htm=>by
        by_cases e:t=((i+j) / 2)
        · subst e;exact h
        · have:=Hasc.out t ((i+j) / 2) ht hmI (by omega);omega)
      have HH:Hid (y<=ids[((i+j) / 2)]->∀ t (h:t < ids.length),((i+j) / 2)<=t->y<=ids[t]):=hide (fun h t ht htm=>by
        by_cases e:t=((i+j) / 2)
        · subst e;exact h
        · have:=Hasc.out ((i+j) / 2) t hmI ht (by omega);omega)
      generalize ids[(i+j) / 2]=x at hv HC HL HH
      simp only [ptr] at hc HC
      clear hv
      by_cases hx:x < y
      · have HL:=hide (HL.out hx)
        have ec:cmpT x y=-1:=by unfold cmpT;rw [if_pos hx]
        rw [ec] at HC
        clear HH ec
        go_wp2_with (go_at_call 243;refine HC.out.mono ?_;rintro e w ⟨rfl,rfl⟩)
        go_roundw
        case rel=>exact ⟨((i+j) / 2)+1,j,by omega,hjn,by congr 1,rfl,HL.out,Hhi.out,by first | trivial | rfl⟩
        case measure=>simp [intOf];omega
      · have HH:=hide (HH.out (by omega))
        have ec:cmpT x y < 0 ↔ False:=by
          unfold cmpT
          rw [if_neg hx]
          split <;> simp
        have ec2:decide (cmpT x y < 0)=false:=by rw [decide_eq_false_iff_not,ec];exact fun h=>h
        generalize cmpT x y=c at HC ec2
        clear HL ec hx
        go_wp2_with (go_at_call 243;refine HC.out.mono ?_;rintro e w ⟨rfl,rfl⟩)
        go_roundw
        case rel=>exact ⟨i,((i+j) / 2),by omega,by omega,rfl,by congr 1,Hlo.out,HH.out,by first | trivial | rfl⟩
        case measure=>simp [intOf];omega
    · obtain rfl:i=j:=by omega
      by_cases hin:i < n
      · have hmB:i < Bs.length:=by have:=Hn.out;omega
        have hmI:i < ids.length:=by have:=Hlen.out;omega
        obtain ⟨g,off,rfl,hc⟩:=Hrow.out i hmB
        have hv:=Hat.out i hmB hmI
        have HC:=hide (atCmp_any Bs[i] ids[i] y wr hv)
        have hii:(i:Int) < (n:Int):=by omega
        have hi0:(0:Int)<=(i:Int):=by omega
        have HS : Hid (SrP ids y i (cmpT ids[i] y == 0)):=hide (by
          by_cases e:ids[i]=y
          · refine .inl ⟨?_,hmI,e⟩
            rw [e,beq_iff_eq];unfold cmpT
            rw [if_neg (by omega),if_neg (by omega)]
          · refine .inr ⟨?_,fun t ht e2=>?_⟩
            · rw [beq_eq_false_iff_ne];unfold cmpT
              split
              · omega
              · split <;> omega
            · by_cases h:t < i
              · have:=Hlo.out t ht h;omega
              · by_cases h2:t=i
                · subst h2;exact e e2
                · have h3:=Hasc.out i t hmI ht (by omega)
                  have h4:=Hhi.out i hmI (Nat.le_refl _)
                  omega)
        generalize cmpT ids[i] y=c at HC HS
        simp only [ptr] at hc HC
        clear hv Hlo Hhi hlt
        go_wp2_with (go_at_call 243;refine HC.out.mono ?_;rintro e w ⟨rfl,rfl⟩)
        go_ret2
        exact ⟨i,_,rfl,HS.out,rfl⟩
      · have HS:Hid (SrP ids y i false):=hide (.inr ⟨rfl,fun t ht e=>by
          have:=Hlen.out;have:=Hn.out
          have:=Hlo.out t ht (by omega);omega⟩)
        clear Hlo Hhi hlt
        go_wp2
        go_ret2
        exact ⟨i,_,rfl,HS.out,rfl⟩
def LmP (Bs:List Nat) (ids:List Int) (y:Int) (v:Value):Prop :=
  (v=.pointer none/\∀ i (h:i < ids.length),ids[i] ≠ y)\/∃ p,∃ h:p < Bs.length,∃ h2:p < ids.length,ids[p]=y/\v=ptr Bs[p]
theorem treeAt_any (v:Value) (Bs:List Nat) (ids:List Int) (y:Int) (w:World) (hr:∀ V,Below w.heap.size w V->RdP V v Bs ids) (hasc:∀ a b (ha:a < ids.length) (hb:b < ids.length),a < b->ids[a] < ids[b]) (hn:Bs.length<=1000000) :
    Calls Tryz.prog 235 #[.agg #[v],.int .i64 y] w fun e w'=>∃ x,e=.returned x/\LmP Bs ids y x/\Below w.heap.size w w':=by
  obtain ⟨w1,hw1⟩:∃ x,w.alloc (.cells #[v] 248)=x:=⟨_,rfl⟩
  have b1:Below w.heap.size w w1:=by rw [<- hw1];exact (Below.refl _ w).alloc (Nat.le_refl _) _
  have k1:Blk w1 w.heap.size 248 [v]:=by rw [<- hw1];exact Blk.new w _ _
  have hr1:=hr w1 b1
  have HS:=hide (search_any v Bs ids y w1 hr1 hasc hn)
  have HB:=hide b1
  have x0:=k1.cell 0
  simp only [List.getElem?_cons_zero] at x0
  have hlen:=hr1.len
  obtain ⟨a,cap,rfl,hrow⟩:=hr1.row
  have Hrow:=hide hrow
  have Hlen:=hide hlen
  clear hr hr1 k1 b1 hasc hrow hlen
  go_enter Tryz.func235,Tryz.ntmps235
  go_wp2_with fail
  refine HS.out.mono ?_
  rintro e w1 ⟨p,f,rfl,hsr,rfl⟩
  rcases hsr with ⟨rfl,hp,he⟩ | ⟨rfl,hno⟩
  · have hpB:p < Bs.length:=by have:=Hlen.out;omega
    obtain ⟨g,off,rfl,hc⟩:=Hrow.out p hpB
    have hp0:(0:Int)<=(p:Int):=by omega
    have hpl:(p:Int) < (Bs.length:Int):=by omega
    have HX:Hid (LmP Bs ids y (ptr Bs[p])):=hide (.inr ⟨p,hpB,hp,he,rfl⟩)
    generalize Bs[p]=B at hc HX
    simp only [ptr] at hc HX
    clear he
    go_wp2
    go_ret
    exact ⟨_,rfl,HX.out,HB.out⟩
  · have HX:Hid (LmP Bs ids y (.pointer none)):=hide (.inl ⟨rfl,hno⟩)
    clear hno
    go_wp2
    go_ret
    exact ⟨_,rfl,HX.out,HB.out⟩
theorem add_flatP (b off i:Nat):(⟨b,off,none⟩:Addr).add i=⟨b,off+i,none⟩:=by
  by_cases hz:i=0
  · subst hz;simp [Addr.add]
  · simp [Addr.add,hz]
theorem Tryz.infoPt:(Tryz.prog.info? 255).map (fun i=>(i.zero,i.size,i.bytes))=some (some (.pointer none),1,8):=by kernel_rfl
structure Limbs (base:Nat) (w:World) (v:Value) (l:List Bk) (n:Nat) (Bs:List Nat):Prop where
  len:Bs.length=n
  le:n<=l.length
  row:w.ownsRow base 255 1 v n (Bs.map ptr)
  at_:∀ i (h:i < Bs.length) (h2:i < l.length),∃ bv p,Blk w Bs[i] 258 (limC l[i] bv p)/\base<=Bs[i] /\
    ((rootB l[i].qr l[i].qb l[i].qw=true/\p=.pointer none)\/∃ j,∃ hj:j < i,(l[j]'(by omega)).id=l[i].qb/\p=ptr (Bs[j]'(by omega)))
theorem Limbs.nil (base:Nat) (w:World) (l:List Bk):Limbs base w (.slice none 0 0) l 0 []:=⟨rfl,Nat.zero_le _,World.ownsRow_nil _ _ _ _,fun i h=>by simp at h⟩
theorem Limbs.below {base B:Nat} {w w':World} {v:Value} {l:List Bk} {n:Nat} {Bs:List Nat} (h:Limbs base w v l n Bs) (hb:Below B w w') (hB:w.heap.size<=B):Limbs base w' v l n Bs :=
  ⟨h.len,h.le,row_below h.row hb hB,fun i hi h2=>by
    obtain ⟨bv,p,k,r⟩:=h.at_ i hi h2
    exact ⟨bv,p,k.below hb (by have:=k.lt;omega),r⟩⟩
theorem Limbs.mono {base base':Nat} {w:World} {v:Value} {l:List Bk} {n:Nat} {Bs:List Nat} (h:Limbs base w v l n Bs) (hB:base'<=base):Limbs base' w v l n Bs :=
  ⟨h.len,h.le,⟨h.row.1,by
    rcases h.row.2 with h' | ⟨g,cap,cur,hv,hbb,r⟩
    · exact .inl h'
    · exact .inr ⟨g,cap,cur,hv,by omega,r⟩⟩,fun i hi h2=>by
    obtain ⟨bv,p,k,q,r⟩:=h.at_ i hi h2
    exact ⟨bv,p,k,by omega,r⟩⟩
theorem Limbs.other {base:Nat} {w w':World} {v:Value} {l:List Bk} {n:Nat} {Bs:List Nat} {g:Nat} (h:Limbs base w v l n Bs) (hg:w.grownBy w' (some g)) (hlt:g < base):Limbs base w' v l n Bs :=
  ⟨h.len,h.le,World.ownsRow.kept h.row hg (.inr (fun e=>by have:=(World.ownsRow.lt h.row g e).1;omega)),fun i hi h2=>by
    obtain ⟨bv,p,k,q,r⟩:=h.at_ i hi h2
    exact ⟨bv,p,(hg.block Bs[i] k.lt (fun e=>by simp only [Option.some.injEq] at e;omega)).trans k,q,r⟩⟩
theorem Limbs.apart {base:Nat} {w:World} {v:Value} {l:List Bk} {n:Nat} {Bs:List Nat} (h:Limbs base w v l n Bs) (i:Nat) (hi:i < Bs.length):v.ownBlock ≠ some Bs[i]:=by
  obtain ⟨bv,p,k,-⟩:=h.at_ i hi (by have:=h.le;have:=h.len;omega)
  rcases h.row.2 with ⟨hv,_⟩ | ⟨g,cap,cur,hv,hbb,hg,r⟩
  · rw [hv];simp [Value.ownBlock]
  · rw [hv]
    simp only [Value.ownBlock,ne_eq,Option.some.injEq]
    intro e
    rw [e,show w.heap[Bs[i]]?=_ from k] at hg
    simp only [Option.some.injEq,Obj.cells.injEq] at hg
    exact absurd hg.2.1 (by decide)
theorem Limbs.snoc {base:Nat} {w w':World} {v v':Value} {l:List Bk} {n:Nat} {Bs:List Nat} (h:Limbs base w v l n Bs) (hn:n < l.length) (B:Nat) (hg:w.grownBy w' v.ownBlock) (hrow:w'.ownsRow base 255 1 v' (n+1) (Bs.map ptr ++ [ptr B]))
    (bv:Bv) (p:Value) (hB:Blk w' B 258 (limC l[n] bv p)) (hb:base<=B)
    (hp:(rootB l[n].qr l[n].qb l[n].qw=true/\p=.pointer none)\/∃ j,∃ hj:j < Bs.length,(l[j]'(by have:=h.len;omega)).id=l[n].qb/\p=ptr Bs[j]):Limbs base w' v' l (n+1) (Bs ++ [B]):=by
  have hl:=h.len
  refine ⟨by simp [hl],by omega,by simpa using hrow,fun i hi h2=>?_⟩
  by_cases hin:i < n
  · obtain ⟨bv2,p2,k,q,r⟩:=h.at_ i (by omega) h2
    rw [List.getElem_append_left (by omega)]
    refine ⟨bv2,p2,(hg.block _ k.lt (h.apart i (by omega)).symm).trans k,q,?_⟩
    rcases r with r | ⟨j,hj,e,f⟩
    · exact .inl r
    · refine .inr ⟨j,hj,e,?_⟩
      rw [List.getElem_append_left (by omega)]
      exact f
  · have e:i=n:=by simp at hi;omega
    subst e
    rw [List.getElem_append_right (by omega)]
    refine ⟨bv,p,by simpa [hl] using hB,by simpa [hl] using hb,?_⟩
    rcases hp with hp | ⟨j,hj,e,f⟩
    · exact .inl hp
    · refine .inr ⟨j,by omega,e,?_⟩
      rw [List.getElem_append_left hj]
      exact f
theorem Limbs.rdP {base:Nat} {w:World} {v:Value} {l:List Bk} {n:Nat} {Bs:List Nat} (h:Limbs base w v l n Bs):RdP w v Bs ((l.take n).map (·.id)):=by
  have hl:=h.len
  have hle:=h.le
  refine ⟨by simp;omega,?_,fun i hi h2=>?_⟩
  · rcases h.row.2 with ⟨hv,hn⟩ | ⟨g,cap,cur,hv,hbb,hg,r⟩
    · refine ⟨none,0,by rw [hv,hl,hn],fun i hi=>?_⟩
      omega
    · refine ⟨_,cap,by rw [hv,hl],fun i hi=>⟨g,0,rfl,?_⟩⟩
      have h':=h.row
      rw [hv] at h'
      rw [Nat.zero_add,h'.cellAt i (by omega)]
      simp [hi]
  · obtain ⟨bv,p,k,-⟩:=h.at_ i hi (by omega)
    rw [k.cell 0]
    simp [limC]
theorem own_shape {base:Nat} {w:World} {e:TypeId} {sz:Nat} {v:Value} {n:Nat} {xs:List Value} (h:w.ownsRow base e sz v n xs):∃ a c,v=.slice a n c:=by
  rcases h.2 with ⟨hv,hn⟩ | ⟨g,cap,cur,hv,r⟩
  · exact ⟨none,0,by rw [hv,hn]⟩
  · exact ⟨_,cap,hv⟩
theorem app_ownP {ops:Array Oper} {rest:List Oper} {o:Oper} {a:Act} {Q:Exit->Act->World->Prop} (w:World) (hgd:o.guard=none) (s x:Operand)
    (ho:o.op=.call { callee:=.builtin .append,args:=#[s,x],argTypes:=#[246,246] })
    (base:Nat) (v:Value) (C:Nat) (n:Nat) (Bs:List Nat) (B:Nat) (hs:a.eval s=v) (hx:a.eval x=.slice (some ⟨C,0,none⟩) 1 1) (hown:w.ownsRow base 255 1 v n (Bs.map ptr)) (hblk:Blk w C 255 [ptr B])
    (hlen:n<=1000000) (hbase:base<=w.heap.size)
    (h:∀ v' w',w'.ownsRow base 255 1 v' (n+1) (Bs.map ptr ++ [ptr B])->w.grownBy w' v.ownBlock->wpList Tryz.prog ops Q rest (a.put o.dst v') w'):wpList Tryz.prog ops Q (o :: rest) a w:=by
  obtain ⟨i0,hi,hz0,hz1,hz2⟩:=info_parts Tryz.infoPt
  refine wpList_append_own w hgd s x 246 ho base 255 i0 (.pointer none) 1 8 Tryz.underlying246 hi hz0 hz1 hz2 rfl (by decide) v n (Bs.map ptr) hs hown ⟨C,0,none⟩ 1 1 [ptr B] hx rfl (fun j u hj=>by rw [add_flatP,Nat.zero_add,hblk.cell j];exact hj) (fun u hu=>by
    simp only [List.mem_cons,List.not_mem_nil,or_false] at hu
    subst hu;rfl) (by unfold maxLen;omega) (by omega) hbase ?_
  intro v' w' ho' hg _
  exact h v' w' ho' hg
end Go.Proofs.YtckahjabljffjaaGreat
