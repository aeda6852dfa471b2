/- The landed code's BlockOk. -/
import Derived.Test.YtohachldbpejpaaGreatDoorZlBkOk
import Derived.Test.YtohachldbpejpaaGreatDoorZlPlOk
set_option maxRecDepth 20000
set_option maxHeartbeats 4000000
namespace Go.Proofs.YtohachldbpejpaaGreatDoor
open Go.RowKit
set_option linter.unusedVariables false
def ptr (B:Nat):Value:=.pointer (some ⟨B,0,none⟩)
def limC (b:Bk) (v:Bv) (p:Value):List Value:=.int .i64 b.id :: (bkC b v ++ [p])
structure RdP (w:World) (v:Value) (Bs:List Nat) (ids:List Int):Prop where
  len:Bs.length=ids.length
  row:∃ a cap,v=.slice a Bs.length cap/\∀ i (h:i < Bs.length),∃ g off,a=some ⟨g,off,none⟩/\w.cell? ⟨g,off+i,none⟩=some (ptr Bs[i])
  at_:∀ i (h:i < Bs.length) (h2:i < ids.length),w.cell? ⟨Bs[i],0,none⟩=some (.int .i64 ids[i])
def cmpT (x y:Int):Int:=if x < y then -1 else if y < x then 1 else 0
theorem nanT_any (x:Int) (w:World):Calls Tryz.prog 222 #[.int .i64 x] w fun e w'=>e=.returned (.bool false)/\w'=w:=by
  go_enter Tryz.func222,Tryz.ntmps222
  go_wp2
  go_ret
  exact ⟨by simp,rfl⟩
theorem cmpT_any (x y:Int) (w:World):Calls Tryz.prog 193 #[.int .i64 x,.int .i64 y] w fun e w'=>e=.returned (.int .i64 (cmpT x y))/\w'=w:=by
  have Hd:Hid (cmpT x y=if x < y then -1 else if y < x then 1 else 0):=hide rfl
  generalize cmpT x y=X at Hd
  by_cases h1:x < y
  · rw [if_pos h1] at Hd
    go_enter Tryz.func193,Tryz.ntmps193
    go_wp2_with (go_at_call 222;refine (nanT_any _ _).mono ?_;rintro e w ⟨rfl,rfl⟩)
    go_ret
    exact ⟨ret_int Hd.out.symm,rfl⟩
  · rw [if_neg h1] at Hd
    by_cases h2:y < x
    · rw [if_pos h2] at Hd
      go_enter Tryz.func193,Tryz.ntmps193
      go_wp2_with (go_at_call 222;refine (nanT_any _ _).mono ?_;rintro e w ⟨rfl,rfl⟩)
      go_ret
      exact ⟨ret_int Hd.out.symm,rfl⟩
    · rw [if_neg h2] at Hd
      go_enter Tryz.func193,Tryz.ntmps193
      go_wp2_with (go_at_call 222;refine (nanT_any _ _).mono ?_;rintro e w ⟨rfl,rfl⟩)
      go_ret
      exact ⟨ret_int Hd.out.symm,rfl⟩
theorem atCmp_any (B:Nat) (x y:Int) (w:World) (h:w.cell? ⟨B,0,none⟩=some (.int .i64 x)) :
    Calls Tryz.prog 192 #[ptr B,.int .i64 y] w fun e w'=>e=.returned (.int .i64 (cmpT x y))/\w'=w:=by
  simp only [ptr]
  go_enter Tryz.func192,Tryz.ntmps192
  go_wp2_with fail
  refine (cmpT_any x y w).mono ?_
  rintro e w ⟨rfl,rfl⟩
  go_wp2
  go_ret
  exact ⟨rfl,rfl⟩
def SrP (ids:List Int) (y:Int) (p:Nat) (f:Bool):Prop:=(f=true/\∃ h:p < ids.length,ids[p]=y)\/(f=false/\∀ i (h:i < ids.length),ids[i] ≠ y)
theorem search_any (v:Value) (Bs:List Nat) (ids:List Int) (y:Int) (w:World) (hr:RdP w v Bs ids) (hasc:∀ a b (ha:a < ids.length) (hb:b < ids.length),a < b->ids[a] < ids[b]) (hn:Bs.length<=1000000) :
    Calls Tryz.prog 191 #[v,.int .i64 y,.func (.func 192) #[] #[]] w fun e w'=>∃ (p:Nat) (f:Bool),e=.returned (.tuple #[.int .i64 (p:Int),.bool f])/\SrP ids y p f/\w'=w:=by
  obtain ⟨hlen,⟨a,cap,rfl,hrow⟩,hat⟩:=hr
  have Hrow:=hide hrow
  have Hat:=hide hat
  have Hasc:=hide hasc
  have Hlen:=hide hlen
  clear hrow hat hasc hlen
  obtain ⟨n,hnn⟩:∃ n,Bs.length=n:=⟨_,rfl⟩
  have Hn:=hide hnn
  rw [hnn] at hn ⊢
  clear hnn
  go_enter Tryz.func191,Tryz.ntmps191
  go_wp2
  go_loopw [9,10] (fun iv jv wr=>∃ i j:Nat,i<=j/\j<=n/\iv=.int .i64 (i:Int)/\jv=.int .i64 (j:Int)/\(∀ t (h:t < ids.length),t < i->ids[t] < y)/\(∀ t (h:t < ids.length),j<=t->y<=ids[t])/\wr=w) (fun iv jv _=>(intOf jv).toNat - (intOf iv).toNat)
  case atStart=>exact ⟨0,n,Nat.zero_le _,Nat.le_refl _,rfl,rfl,fun t _ h=>by omega,fun t h h2=>by have:=Hlen.out;have:=Hn.out;omega,rfl⟩
  case round =>
    obtain ⟨i,j,hij,hjn,rfl,rfl,hlo,hhi,rfl⟩:=hrel
    have Hlo:=hide hlo
    have Hhi:=hide hhi
    clear hlo hhi
    by_cases hlt:i < j
    · have hmi:i<=((i+j) / 2):=by omega
      have hmj:((i+j) / 2) < j:=by omega
      have hmB:((i+j) / 2) < Bs.length:=by have:=Hn.out;omega
      have hmI:((i+j) / 2) < ids.length:=by have:=Hlen.out;omega
      obtain ⟨g,off,rfl,hc⟩:=Hrow.out ((i+j) / 2) hmB
      have hv:=Hat.out ((i+j) / 2) hmB hmI
      have e1:wrap64 ((i:Int)+(j:Int))=((i+j:Nat):Int):=by unfold wrap64;omega
      have hm0:(0:Int)<=(((i+j) / 2:Nat):Int):=by omega
      have hmn:(((i+j) / 2:Nat):Int) < (n:Int):=by omega
      have hij2:(i:Int) < (j:Int):=by omega
      have HC:=hide (atCmp_any Bs[((i+j) / 2)] ids[((i+j) / 2)] y wr hv)
      have HL:Hid (ids[((i+j) / 2)] < y->∀ t (h:t < ids.length),t < ((i+j) / 2)+1->ids[t] < y):=hide (fun h t ht htm=>by
        by_cases e:t=((i+j) / 2)
        · subst e;exact h
        · have:=Hasc.out t ((i+j) / 2) ht hmI (by omega);omega)
      have HH:Hid (y<=ids[((i+j) / 2)]->∀ t (h:t < ids.length),((i+j) / 2)<=t->y<=ids[t]):=hide (fun h t ht htm=>by
        by_cases e:t=((i+j) / 2)
        · subst e;exact h
        · have:=Hasc.out ((i+j) / 2) t hmI ht (by omega);omega)
      generalize ids[(i+j) / 2]=x at hv HC HL HH
      simp only [ptr] at hc HC
      clear hv
      by_cases hx:x < y
      · have HL:=hide (HL.out hx)
        have ec:cmpT x y=-1:=by unfold cmpT;rw [if_pos hx]
        rw [ec] at HC
        clear HH ec
        go_wp2_with (go_at_call 192;refine HC.out.mono ?_;rintro e w ⟨rfl,rfl⟩)
        go_roundw
        case rel=>exact ⟨((i+j) / 2)+1,j,by omega,hjn,by congr 1,rfl,HL.out,Hhi.out,by first | trivial | rfl⟩
        case measure=>simp [intOf];omega
      · have HH:=hide (HH.out (by omega))
        have ec:cmpT x y < 0 ↔ False:=by
          unfold cmpT
          rw [if_neg hx]
          split <;> simp
        have ec2:decide (cmpT x y < 0)=false:=by rw [decide_eq_false_iff_not,ec];exact fun h=>h
        generalize cmpT x y=c at HC ec2
        clear HL ec hx
        go_wp2_with (go_at_call 192;refine HC.out.mono ?_;rintro e w ⟨rfl,rfl⟩)
        go_roundw
        case rel=>exact ⟨i,((i+j) / 2),by omega,by omega,rfl,by congr 1,Hlo.out,HH.out,by first | trivial | rfl⟩
        case measure=>simp [intOf];omega
    · obtain rfl:i=j:=by omega
      by_cases hin:i < n
      · have hmB:i < Bs.length:=by have:=Hn.out;omega
        have hmI:i < ids.length:=by have:=Hlen.out;omega
        obtain ⟨g,off,rfl,hc⟩:=Hrow.out i hmB
        have hv:=Hat.out i hmB hmI
        have HC:=hide (atCmp_any Bs[i] ids[i] y wr hv)
        have hii:(i:Int) < (n:Int):=by omega
        have hi0:(0:Int)<=(i:Int):=by omega
        have HS : Hid (SrP ids y i (cmpT ids[i] y == 0)):=hide (by
          by_cases e:ids[i]=y
          · refine .inl ⟨?_,hmI,e⟩
            rw [e,beq_iff_eq];unfold cmpT
            rw [if_neg (by omega),if_neg (by omega)]
          · refine .inr ⟨?_,fun t ht e2=>?_⟩
            · rw [beq_eq_false_iff_ne];unfold cmpT
              split
              · omega
              · split <;> omega
            · by_cases h:t < i
              · have:=Hlo.out t ht h;omega
              · by_cases h2:t=i
                · subst h2;exact e e2
                · have h3:=Hasc.out i t hmI ht (by omega)
                  have h4:=Hhi.out i hmI (Nat.le_refl _)
                  omega)
        generalize cmpT ids[i] y=c at HC HS
        simp only [ptr] at hc HC
        clear hv Hlo Hhi hlt
        go_wp2_with (go_at_call 192;refine HC.out.mono ?_;rintro e w ⟨rfl,rfl⟩)
        go_ret2
        exact ⟨i,_,rfl,HS.out,rfl⟩
      · have HS:Hid (SrP ids y i false):=hide (.inr ⟨rfl,fun t ht e=>by
          have:=Hlen.out;have:=Hn.out
          have:=Hlo.out t ht (by omega);omega⟩)
        clear Hlo Hhi hlt
        go_wp2
        go_ret2
        exact ⟨i,_,rfl,HS.out,rfl⟩
def LmP (Bs:List Nat) (ids:List Int) (y:Int) (v:Value):Prop :=
  (v=.pointer none/\∀ i (h:i < ids.length),ids[i] ≠ y)\/∃ p,∃ h:p < Bs.length,∃ h2:p < ids.length,ids[p]=y/\v=ptr Bs[p]
theorem treeAt_any (v:Value) (Bs:List Nat) (ids:List Int) (y:Int) (w:World) (hr:∀ V,Below w.heap.size w V->RdP V v Bs ids) (hasc:∀ a b (ha:a < ids.length) (hb:b < ids.length),a < b->ids[a] < ids[b]) (hn:Bs.length<=1000000) :
    Calls Tryz.prog 137 #[.agg #[v],.int .i64 y] w fun e w'=>∃ x,e=.returned x/\LmP Bs ids y x/\Below w.heap.size w w':=by
  obtain ⟨w1,hw1⟩:∃ x,w.alloc (.cells #[v] 134)=x:=⟨_,rfl⟩
  have b1:Below w.heap.size w w1:=by rw [<- hw1];exact (Below.refl _ w).alloc (Nat.le_refl _) _
  have k1:Blk w1 w.heap.size 134 [v]:=by rw [<- hw1];exact Blk.new w _ _
  have hr1:=hr w1 b1
  have HS:=hide (search_any v Bs ids y w1 hr1 hasc hn)
  have HB:=hide b1
  have x0:=k1.cell 0
  simp only [List.getElem?_cons_zero] at x0
  have hlen:=hr1.len
  obtain ⟨a,cap,rfl,hrow⟩:=hr1.row
  have Hrow:=hide hrow
  have Hlen:=hide hlen
  clear hr hr1 k1 b1 hasc hrow hlen
  go_enter Tryz.func137,Tryz.ntmps137
  go_wp2_with fail
  refine HS.out.mono ?_
  rintro e w1 ⟨p,f,rfl,hsr,rfl⟩
  rcases hsr with ⟨rfl,hp,he⟩ | ⟨rfl,hno⟩
  · have hpB:p < Bs.length:=by have:=Hlen.out;omega
    obtain ⟨g,off,rfl,hc⟩:=Hrow.out p hpB
    have hp0:(0:Int)<=(p:Int):=by omega
    have hpl:(p:Int) < (Bs.length:Int):=by omega
    have HX:Hid (LmP Bs ids y (ptr Bs[p])):=hide (.inr ⟨p,hpB,hp,he,rfl⟩)
    generalize Bs[p]=B at hc HX
    simp only [ptr] at hc HX
    clear he
    go_wp2
    go_ret
    exact ⟨_,rfl,HX.out,HB.out⟩
  · have HX:Hid (LmP Bs ids y (.pointer none)):=hide (.inl ⟨rfl,hno⟩)
    clear hno
    go_wp2
    go_ret
    exact ⟨_,rfl,HX.out,HB.out⟩
theorem add_flatP (b off i:Nat):(⟨b,off,none⟩:Addr).add i=⟨b,off+i,none⟩:=by
  by_cases hz:i=0
  · subst hz;simp [Addr.add]
  · simp [Addr.add,hz]
theorem Tryz.infoPt:(Tryz.prog.info? 204).map (fun i=>(i.zero,i.size,i.bytes))=some (some (.pointer none),1,8):=by kernel_rfl
structure Limbs (base:Nat) (w:World) (v:Value) (l:List Bk) (n:Nat) (Bs:List Nat):Prop where
  len:Bs.length=n
  le:n<=l.length
  row:w.ownsRow base 204 1 v n (Bs.map ptr)
  at_:∀ i (h:i < Bs.length) (h2:i < l.length),∃ bv p,Blk w Bs[i] 207 (limC l[i] bv p)/\base<=Bs[i] /\
    ((rootB l[i].qr l[i].qb l[i].qw=true/\p=.pointer none)\/∃ j,∃ hj:j < i,(l[j]'(by omega)).id=l[i].qb/\p=ptr (Bs[j]'(by omega)))
theorem Limbs.nil (base:Nat) (w:World) (l:List Bk):Limbs base w (.slice none 0 0) l 0 []:=⟨rfl,Nat.zero_le _,World.ownsRow_nil _ _ _ _,fun i h=>by simp at h⟩
theorem Limbs.below {base B:Nat} {w w':World} {v:Value} {l:List Bk} {n:Nat} {Bs:List Nat} (h:Limbs base w v l n Bs) (hb:Below B w w') (hB:w.heap.size<=B):Limbs base w' v l n Bs :=
  ⟨h.len,h.le,row_below h.row hb hB,fun i hi h2=>by
    obtain ⟨bv,p,k,r⟩:=h.at_ i hi h2
    exact ⟨bv,p,k.below hb (by have:=k.lt;omega),r⟩⟩
theorem Limbs.mono {base base':Nat} {w:World} {v:Value} {l:List Bk} {n:Nat} {Bs:List Nat} (h:Limbs base w v l n Bs) (hB:base'<=base):Limbs base' w v l n Bs :=
  ⟨h.len,h.le,⟨h.row.1,by
    rcases h.row.2 with h' | ⟨g,cap,cur,hv,hbb,r⟩
    · exact .inl h'
    · exact .inr ⟨g,cap,cur,hv,by omega,r⟩⟩,fun i hi h2=>by
    obtain ⟨bv,p,k,q,r⟩:=h.at_ i hi h2
    exact ⟨bv,p,k,by omega,r⟩⟩
theorem Limbs.other {base:Nat} {w w':World} {v:Value} {l:List Bk} {n:Nat} {Bs:List Nat} {g:Nat} (h:Limbs base w v l n Bs) (hg:w.grownBy w' (some g)) (hlt:g < base):Limbs base w' v l n Bs :=
  ⟨h.len,h.le,World.ownsRow.kept h.row hg (.inr (fun e=>by have:=(World.ownsRow.lt h.row g e).1;omega)),fun i hi h2=>by
    obtain ⟨bv,p,k,q,r⟩:=h.at_ i hi h2
    exact ⟨bv,p,(hg.block Bs[i] k.lt (fun e=>by simp only [Option.some.injEq] at e;omega)).trans k,q,r⟩⟩
theorem Limbs.apart {base:Nat} {w:World} {v:Value} {l:List Bk} {n:Nat} {Bs:List Nat} (h:Limbs base w v l n Bs) (i:Nat) (hi:i < Bs.length):v.ownBlock ≠ some Bs[i]:=by
  obtain ⟨bv,p,k,-⟩:=h.at_ i hi (by have:=h.le;have:=h.len;omega)
  rcases h.row.2 with ⟨hv,_⟩ | ⟨g,cap,cur,hv,hbb,hg,r⟩
  · rw [hv];simp [Value.ownBlock]
  · rw [hv]
    simp only [Value.ownBlock,ne_eq,Option.some.injEq]
    intro e
    rw [e,show w.heap[Bs[i]]?=_ from k] at hg
    simp only [Option.some.injEq,Obj.cells.injEq] at hg
    exact absurd hg.2.1 (by decide)
theorem Limbs.snoc {base:Nat} {w w':World} {v v':Value} {l:List Bk} {n:Nat} {Bs:List Nat} (h:Limbs base w v l n Bs) (hn:n < l.length) (B:Nat) (hg:w.grownBy w' v.ownBlock) (hrow:w'.ownsRow base 204 1 v' (n+1) (Bs.map ptr ++ [ptr B]))
    (bv:Bv) (p:Value) (hB:Blk w' B 207 (limC l[n] bv p)) (hb:base<=B)
    (hp:(rootB l[n].qr l[n].qb l[n].qw=true/\p=.pointer none)\/∃ j,∃ hj:j < Bs.length,(l[j]'(by have:=h.len;omega)).id=l[n].qb/\p=ptr Bs[j]):Limbs base w' v' l (n+1) (Bs ++ [B]):=by
  have hl:=h.len
  refine ⟨by simp [hl],by omega,by simpa using hrow,fun i hi h2=>?_⟩
  by_cases hin:i < n
  · obtain ⟨bv2,p2,k,q,r⟩:=h.at_ i (by omega) h2
    rw [List.getElem_append_left (by omega)]
    refine ⟨bv2,p2,(hg.block _ k.lt (h.apart i (by omega)).symm).trans k,q,?_⟩
    rcases r with r | ⟨j,hj,e,f⟩
    · exact .inl r
    · refine .inr ⟨j,hj,e,?_⟩
      rw [List.getElem_append_left (by omega)]
      exact f
  · have e:i=n:=by simp at hi;omega
    subst e
    rw [List.getElem_append_right (by omega)]
    refine ⟨bv,p,by simpa [hl] using hB,by simpa [hl] using hb,?_⟩
    rcases hp with hp | ⟨j,hj,e,f⟩
    · exact .inl hp
    · refine .inr ⟨j,by omega,e,?_⟩
      rw [List.getElem_append_left hj]
      exact f
theorem Limbs.rdP {base:Nat} {w:World} {v:Value} {l:List Bk} {n:Nat} {Bs:List Nat} (h:Limbs base w v l n Bs):RdP w v Bs ((l.take n).map (·.id)):=by
  have hl:=h.len
  have hle:=h.le
  refine ⟨by simp;omega,?_,fun i hi h2=>?_⟩
  · rcases h.row.2 with ⟨hv,hn⟩ | ⟨g,cap,cur,hv,hbb,hg,r⟩
    · refine ⟨none,0,by rw [hv,hl,hn],fun i hi=>?_⟩
      omega
    · refine ⟨_,cap,by rw [hv,hl],fun i hi=>⟨g,0,rfl,?_⟩⟩
      have h':=h.row
      rw [hv] at h'
      rw [Nat.zero_add,h'.cellAt i (by omega)]
      simp [hi]
  · obtain ⟨bv,p,k,-⟩:=h.at_ i hi (by omega)
    rw [k.cell 0]
    simp [limC]
theorem own_shape {base:Nat} {w:World} {e:TypeId} {sz:Nat} {v:Value} {n:Nat} {xs:List Value} (h:w.ownsRow base e sz v n xs):∃ a c,v=.slice a n c:=by
  rcases h.2 with ⟨hv,hn⟩ | ⟨g,cap,cur,hv,r⟩
  · exact ⟨none,0,by rw [hv,hn]⟩
  · exact ⟨_,cap,hv⟩
theorem app_ownP {ops:Array Oper} {rest:List Oper} {o:Oper} {a:Act} {Q:Exit->Act->World->Prop} (w:World) (hgd:o.guard=none) (s x:Operand)
    (ho:o.op=.call { callee:=.builtin .append,args:=#[s,x],argTypes:=#[132,132] })
    (base:Nat) (v:Value) (C:Nat) (n:Nat) (Bs:List Nat) (B:Nat) (hs:a.eval s=v) (hx:a.eval x=.slice (some ⟨C,0,none⟩) 1 1) (hown:w.ownsRow base 204 1 v n (Bs.map ptr)) (hblk:Blk w C 204 [ptr B])
    (hlen:n<=1000000) (hbase:base<=w.heap.size)
    (h:∀ v' w',w'.ownsRow base 204 1 v' (n+1) (Bs.map ptr ++ [ptr B])->w.grownBy w' v.ownBlock->wpList Tryz.prog ops Q rest (a.put o.dst v') w'):wpList Tryz.prog ops Q (o :: rest) a w:=by
  obtain ⟨i0,hi,hz0,hz1,hz2⟩:=info_parts Tryz.infoPt
  refine wpList_append_own w hgd s x 132 ho base 204 i0 (.pointer none) 1 8 Tryz.underlying132 hi hz0 hz1 hz2 rfl (by decide) v n (Bs.map ptr) hs hown ⟨C,0,none⟩ 1 1 [ptr B] hx rfl (fun j u hj=>by rw [add_flatP,Nat.zero_add,hblk.cell j];exact hj) (fun u hu=>by
    simp only [List.mem_cons,List.not_mem_nil,or_false] at hu
    subst hu;rfl) (by unfold maxLen;omega) (by omega) hbase ?_
  intro v' w' ho' hg _
  exact h v' w' ho' hg
theorem implWithinC_any (x a b:Int) (w:World) :
    Calls Tryz.prog 53 #[.int .i64 x,.int .i64 a,.int .i64 b] w fun e w'=>e=.returned (.bool (inB x a b))/\w'=w:=by
  by_cases h1:a<=x
  · by_cases h2:x<=b
    · have e:Hid (inB x a b=true):=hide (by simp [inB,h1,h2])
      go_enter Tryz.func53,Tryz.ntmps53
      go_wp2
      go_ret
      rw [e.out];exact ⟨rfl,rfl⟩
    · have e:Hid (inB x a b=false):=hide (by simp [inB,h1,h2])
      go_enter Tryz.func53,Tryz.ntmps53
      go_wp2
      go_ret
      rw [e.out];exact ⟨rfl,rfl⟩
  · have e:Hid (inB x a b=false):=hide (by simp [inB,h1])
    go_enter Tryz.func53,Tryz.ntmps53
    go_wp2
    go_ret
    rw [e.out];exact ⟨rfl,rfl⟩
theorem implIsRootQc_any (r b:Int) (vw:Value) (ws:List ByteArray) (w:World) (hrw:RdS w vw ws) (hlw:ws.length<=4000000) :
    Calls Tryz.prog 138 #[qcV r b vw] w fun e w'=>e=.returned (.bool (rootB r b ws))/\Below w.heap.size w w':=by
  obtain ⟨a,c,rfl⟩:=hrw.shape
  clear hrw
  simp only [qcV]
  have HB:=hide ((Below.refl _ w).alloc (Nat.le_refl _) (.cells #[.int .i64 r,.int .i64 b,.slice a ws.length c] 44))
  by_cases h1:r=0
  · by_cases h2:b=-1
    · by_cases h3:ws.length=0
      · have Hf:Hid (rootB r b ws=true):=hide (by unfold rootB;rw [decide_eq_true h1,decide_eq_true h2,decide_eq_true h3];rfl)
        have h3i:((ws.length:Int) == 0)=true:=by rw [beq_iff_eq];omega
        subst h1 h2
        generalize rootB 0 (-1) ws=X at Hf ⊢
        clear h3
        go_enter Tryz.func138,Tryz.ntmps138
        go_wp2
        go_ret
        exact ⟨ret_bool Hf.out.symm,HB.out⟩
      · have Hf:Hid (rootB r b ws=false):=hide (by unfold rootB;rw [decide_eq_false h3,Bool.and_false,Bool.and_false])
        have h3i:((ws.length:Int) == 0)=false:=by rw [beq_eq_false_iff_ne];omega
        subst h1 h2
        generalize rootB 0 (-1) ws=X at Hf ⊢
        go_enter Tryz.func138,Tryz.ntmps138
        go_wp2
        go_ret
        exact ⟨ret_bool Hf.out.symm,HB.out⟩
    · have Hf:Hid (rootB r b ws=false):=hide (by unfold rootB;rw [decide_eq_false h2,Bool.false_and,Bool.and_false])
      have h2i:(b == -1)=false:=by rw [beq_eq_false_iff_ne];exact h2
      subst h1
      generalize rootB 0 b ws=X at Hf ⊢
      clear h2
      go_enter Tryz.func138,Tryz.ntmps138
      go_wp2
      go_ret
      exact ⟨ret_bool Hf.out.symm,HB.out⟩
  · have Hf:Hid (rootB r b ws=false):=hide (by unfold rootB;rw [decide_eq_false h1,Bool.false_and])
    have h1i:(r == 0)=false:=by rw [beq_eq_false_iff_ne];exact h1
    generalize rootB r b ws=X at Hf ⊢
    clear h1
    go_enter Tryz.func138,Tryz.ntmps138
    go_wp2
    go_ret
    exact ⟨ret_bool Hf.out.symm,HB.out⟩
end Go.Proofs.YtohachldbpejpaaGreatDoor
namespace Go.Proofs.YtohachldbpejpaaGreatDoor
open Go.RowKit Go.Sort
set_option linter.unusedVariables false
theorem withinV_any (x a b:Int) (w:World) :
    Calls Tryz.prog 53 #[.int .i64 x,.int .i64 a,.int .i64 b] w fun e w'=>e=.returned (.bool (inB x a b))/\w'=w:=by
  by_cases h1:a<=x
  · by_cases h2:x<=b
    · have e:Hid (inB x a b=true):=hide (by simp [inB,h1,h2])
      go_enter Tryz.func53,Tryz.ntmps53
      go_wp2
      go_ret
      rw [e.out];exact ⟨rfl,rfl⟩
    · have e:Hid (inB x a b=false):=hide (by simp [inB,h1,h2])
      go_enter Tryz.func53,Tryz.ntmps53
      go_wp2
      go_ret
      rw [e.out];exact ⟨rfl,rfl⟩
  · have e:Hid (inB x a b=false):=hide (by simp [inB,h1])
    go_enter Tryz.func53,Tryz.ntmps53
    go_wp2
    go_ret
    rw [e.out];exact ⟨rfl,rfl⟩
theorem implSetOk_any (v:Value) (l:List Vl) (w:World) (hr:RdV w v l) (hl:l.length<=4000000) (hall:∀ a ∈ l,a.1.size<=maxLen) :
    Calls Tryz.prog 221 #[v] w fun e w'=>e=.returned (.bool (setB l))/\Below w.heap.size w w':=by
  rcases hr with ⟨a,cap,rfl,rfl,-⟩ | ⟨b,off,cap,h0,rfl,h1,h2,h3,h4⟩
  · have HW:=hide (fun w=>withinV_any 0 1 12 w)
    have h0:inB 0 1 12=false:=rfl
    rw [h0] at HW
    go_enter Tryz.func221,Tryz.ntmps221
    go_wp2_with fail
    refine (HW.out _).mono ?_
    rintro e w2 ⟨rfl,rfl⟩
    go_wp2
    go_ret
    exact ⟨rfl,Below.refl _ _⟩
  · have H4 := hide h4
    have Hs:=hide hall
    clear h4 hall
    have Hset:Hid (setB l=((List.range l.length).all (vlAt l) && inB l.length 1 12)):=hide rfl
    cases h12:inB (l.length:Int) 1 12
    · rw [h12,Bool.and_false] at Hset
      have HW:=hide (fun w=>withinV_any (l.length:Int) 1 12 w)
      rw [h12] at HW
      clear h12
      go_enter Tryz.func221,Tryz.ntmps221
      go_wp2_with fail
      refine (HW.out _).mono ?_
      rintro e w2 ⟨rfl,rfl⟩
      go_wp2
      go_ret
      exact ⟨ret_bool Hset.out.symm,Below.refl _ _⟩
    clear Hset
    have HW:=hide (fun w=>withinV_any (l.length:Int) 1 12 w)
    rw [h12] at HW
    go_enter Tryz.func221,Tryz.ntmps221
    go_wp2_with fail
    refine (HW.out _).mono ?_
    rintro e w ⟨rfl,rfl⟩
    go_wp2
    go_loopw [11] (fun i wr=>∃ k:Nat,k<=l.length/\i=.int .i64 k/\(∀ j,j < k->vlAt l j=true)/\Below w.heap.size w wr) (fun i _=>l.length - (intOf i).toNat)
    case atStart=>exact ⟨0,Nat.zero_le _,rfl,fun j hj=>by omega,Below.refl _ _⟩
    case round =>
      obtain ⟨k,hk,rfl,hok,hb⟩:=hrel
      have Hall:=hide hok
      clear hok
      by_cases hlt:k < l.length
      · obtain ⟨d0,d1⟩:=H4.out k hlt
        have c0:=(hb.cell (p:=⟨b,off+k * 2,none⟩) h3).trans d0
        have c1:=(hb.cell (p:=⟨b,off+k * 2+1,none⟩) h3).trans d1
        have hsz:=Hs.out l[k] (List.getElem_mem hlt)
        have Hok:=hide (vlAt_eq l k l[k] hlt rfl)
        have Hno:=hide (set_no l k hlt)
        have hli:(k:Int) < (l.length:Int):=by omega
        have Hnx:Hid (vlAt l k=true->∀ j,j < k+1->vlAt l j=true):=hide (fun h j hj=>by
          by_cases e:j=k
          · subst e;exact h
          · exact Hall.out j (by omega))
        have hprev:Hid (k ≥ 1->wr.cell? ⟨b,off+(k - 1) * 2,none⟩=some (.string (l.getD (k - 1) vl0).1)):=hide (fun hk1=>by
          rw [List.getD_eq_getElem?_getD,List.getElem?_eq_getElem (show k - 1 < l.length by omega)]
          exact (hb.cell (p:=⟨b,off+(k - 1) * 2,none⟩) h3).trans (H4.out (k - 1) (by omega)).1)
        clear d0 d1
        generalize l[k]=ak at c0 c1 Hok hsz
        generalize (l.getD (k - 1) vl0).1=pn at hprev Hok
        obtain ⟨nm,wt⟩:=ak
        simp only at c0 c1 Hok hsz
        obtain ⟨w1,hw1⟩:∃ w1,wr.alloc (.cells #[.string nm,.int .i64 wt] 124)=w1:=⟨_,rfl⟩
        have hA:Below wr.heap.size wr w1:=by rw [<- hw1];exact (Below.refl _ wr).alloc (Nat.le_refl _) _
        have hbb:b < wr.heap.size:=Nat.lt_of_lt_of_le h3 hb.size
        have HB1:Hid (Below w.heap.size w w1):=hide (hb.trans (hA.mono hb.size))
        have hk1:Blk w1 wr.heap.size 124 [.string nm,.int .i64 wt]:=by rw [<- hw1];exact Blk.new wr _ _
        have HN:=hide (fun (d:Nat) (os:Array Obj)=>sameV_regrown (implNameOk_any nm (grow (redrawn w1 d) os) hsz))
        have HI:=hide (fun (d:Nat) (os:Array Obj)=>sameV_regrown (withinV_any wt 1 1000000 (grow (redrawn w1 d) os)))
        have e0:=hk1.cell 0
        have e1:=hk1.cell 1
        simp only [List.getElem?_cons_zero,List.getElem?_cons_succ] at e0 e1
        have g0:=cell_regrown e0
        have g1:=cell_regrown e1
        have hprev1:Hid (k ≥ 1->w1.cell? ⟨b,off+(k - 1) * 2,none⟩=some (.string pn)):=hide (fun h=>(hA.cell (p:=⟨b,off+(k - 1) * 2,none⟩) hbb).trans (hprev.out h))
        clear e0 e1 hprev hsz hk1 hA
        cases hn:nmB nm
        · have hf:=hide (Hno.out (by rw [Hok.out,hn];rfl))
          rw [hn] at HN
          clear hn hprev1 Hnx
          go_wp2
          clear c0 c1
          refine wp_region_quiet_below (by kernel_rfl) (by kernel_rfl) ?_
          repeat (go_big_quiet_step ((first | (go_at_call 163;exact HN.out _ _) | (go_at_call 53;exact HI.out _ _))))
          refine wpQuiet_nil ?_
          intro _ hw'
          obtain ⟨⟨dq,osq⟩,hw''⟩:=hw'
          subst hw''
          go_wp2
          go_ret
          exact ⟨ret_bool hf.out.symm,HB1.out.trans ((below_regrown w1 dq osq).mono HB1.out.size)⟩
        · rw [hn] at HN
          cases hi:inB wt 1 1000000
          · have hf:=hide (Hno.out (by rw [Hok.out,hn,hi];rfl))
            rw [hi] at HI
            clear hn hi hprev1 Hnx
            go_wp2
            clear c0 c1
            refine wp_region_quiet_below (by kernel_rfl) (by kernel_rfl) ?_
            repeat (go_big_quiet_step ((first | (go_at_call 163;exact HN.out _ _) | (go_at_call 53;exact HI.out _ _))))
            refine wpQuiet_nil ?_
            intro _ hw'
            obtain ⟨⟨dq,osq⟩,hw''⟩:=hw'
            subst hw''
            go_wp2
            go_ret
            exact ⟨ret_bool hf.out.symm,HB1.out.trans ((below_regrown w1 dq osq).mono HB1.out.size)⟩
          · rw [hi] at HI
            by_cases hk1:k < 1
            · have hd:decide (0 < k)=false:=by simp;omega
              have hd2:decide ((0:Int) < (k:Int))=false:=by simp;omega
              have Hnx:=hide (Hnx.out (by rw [Hok.out,hn,hi,show k=0 from by omega];rfl))
              clear hn hi hprev1
              go_wp2
              clear c0 c1
              refine wp_region_quiet_below (by kernel_rfl) (by kernel_rfl) ?_
              repeat (go_big_quiet_step ((first | (go_at_call 163;exact HN.out _ _) | (go_at_call 53;exact HI.out _ _))))
              refine wpQuiet_nil ?_
              intro _ hw'
              obtain ⟨⟨dq,osq⟩,hw''⟩:=hw'
              subst hw''
              go_wp2
              go_roundw
              case rel=>exact ⟨k+1,by omega,by go_num,Hnx.out,HB1.out.trans ((below_regrown w1 dq osq).mono HB1.out.size)⟩
              case measure=>simp [intOf];omega
            · have hcp:=cell_regrown (hprev1.out (by omega))
              clear hprev1
              have hpos:(0:Int) < (k:Int):=by omega
              have hposN:0 < k:=by omega
              have hd1:decide (0 < k)=true:=by simp;omega
              have hix:((k:Int) - 1).toNat=k - 1:=by omega
              have hix1:(0:Int)<=(k:Int) - 1:=by omega
              have hix2:(k:Int) - 1 < (l.length:Int):=by omega
              cases hless:Op.bytesLess pn.toList nm.toList
              · have hf:=hide (Hno.out (by rw [Hok.out,hn,hi,hless];simp;omega))
                clear hn hi Hnx
                go_wp2
                clear c0 c1
                refine wp_region_quiet_below (by kernel_rfl) (by kernel_rfl) ?_
                repeat (go_big_quiet_step ((first | (go_at_call 163;exact HN.out _ _) | (go_at_call 53;exact HI.out _ _))))
                refine wpQuiet_nil ?_
                intro _ hw'
                obtain ⟨⟨dq,osq⟩,hw''⟩:=hw'
                subst hw''
                go_wp2
                go_ret
                exact ⟨ret_bool hf.out.symm,HB1.out.trans ((below_regrown w1 dq osq).mono HB1.out.size)⟩
              · have Hnx:=hide (Hnx.out (by rw [Hok.out,hn,hi,hless];simp))
                clear hn hi
                go_wp2
                clear c0 c1
                refine wp_region_quiet_below (by kernel_rfl) (by kernel_rfl) ?_
                repeat (go_big_quiet_step ((first | (go_at_call 163;exact HN.out _ _) | (go_at_call 53;exact HI.out _ _))))
                refine wpQuiet_nil ?_
                intro _ hw'
                obtain ⟨⟨dq,osq⟩,hw''⟩:=hw'
                subst hw''
                go_wp2
                go_roundw
                case rel=>exact ⟨k+1,by omega,by go_num,Hnx.out,HB1.out.trans ((below_regrown w1 dq osq).mono HB1.out.size)⟩
                case measure=>simp [intOf];omega
      · have hf:=hide (set_yes l (fun j hj=>Hall.out j (by omega)))
        rw [h12] at hf
        go_wp2
        go_ret
        exact ⟨ret_bool hf.out.symm,hb⟩
end Go.Proofs.YtohachldbpejpaaGreatDoor
namespace Go.Proofs.YtohachldbpejpaaGreatDoor
open Go.RowKit Go.Sort
set_option linter.unusedVariables false
theorem implNoTc_any (r:Int) (vw vh:Value) (ws:List ByteArray) (hs:List Int) (w:World) (hrw:RdS w vw ws) (hrh:RdI w vh hs) (hlw:ws.length<=4000000) (hlh:hs.length<=4000000) :
    Calls Tryz.prog 219 #[tcV r vw vh] w fun e w'=>e=.returned (.bool (noneB r ws hs))/\Below w.heap.size w w':=by
  obtain ⟨a,c,rfl⟩:=hrw.shape
  obtain ⟨a2,c2,rfl⟩:=hrh.shape
  clear hrw hrh
  simp only [tcV]
  have HB:=hide ((Below.refl _ w).alloc (Nat.le_refl _) (.cells #[.int .i64 r,.slice a ws.length c,.slice a2 hs.length c2] 47))
  by_cases h1:r=0
  · by_cases h2:ws.length=0
    · by_cases h3:hs.length=0
      · have Hf:Hid (noneB r ws hs=true):=hide (by unfold noneB;rw [decide_eq_true h1,decide_eq_true h2,decide_eq_true h3];rfl)
        have h2i:((ws.length:Int) == 0)=true:=by rw [beq_iff_eq];omega
        have h3i:((hs.length:Int) == 0)=true:=by rw [beq_iff_eq];omega
        subst h1
        generalize noneB 0 ws hs=X at Hf ⊢
        clear h2 h3
        go_enter Tryz.func219,Tryz.ntmps219
        go_wp2
        go_ret
        exact ⟨ret_bool Hf.out.symm,HB.out⟩
      · have Hf:Hid (noneB r ws hs=false):=hide (by unfold noneB;rw [decide_eq_false h3,Bool.and_false,Bool.and_false])
        have h2i:((ws.length:Int) == 0)=true:=by rw [beq_iff_eq];omega
        have h3i:((hs.length:Int) == 0)=false:=by rw [beq_eq_false_iff_ne];omega
        subst h1
        generalize noneB 0 ws hs=X at Hf ⊢
        clear h2 h3
        go_enter Tryz.func219,Tryz.ntmps219
        go_wp2
        go_ret
        exact ⟨ret_bool Hf.out.symm,HB.out⟩
    · have Hf:Hid (noneB r ws hs=false):=hide (by unfold noneB;rw [decide_eq_false h2,Bool.false_and,Bool.and_false])
      have h2i:((ws.length:Int) == 0)=false:=by rw [beq_eq_false_iff_ne];omega
      subst h1
      generalize noneB 0 ws hs=X at Hf ⊢
      clear h2
      go_enter Tryz.func219,Tryz.ntmps219
      go_wp2
      go_ret
      exact ⟨ret_bool Hf.out.symm,HB.out⟩
  · have Hf:Hid (noneB r ws hs=false):=hide (by unfold noneB;rw [decide_eq_false h1,Bool.false_and])
    have h1i:(r == 0)=false:=by rw [beq_eq_false_iff_ne];exact h1
    generalize noneB r ws hs=X at Hf ⊢
    clear h1
    go_enter Tryz.func219,Tryz.ntmps219
    go_wp2
    go_ret
    exact ⟨ret_bool Hf.out.symm,HB.out⟩
theorem implHighs_any (tr:Int) (vw vh:Value) (tw:List ByteArray) (th:List Int) (w:World) (hw:RdS w vw tw) (hh:RdI w vh th) (hlw:tw.length<=4000000) (hlh:th.length<=4000000) (h1:1<=tr) (h2:tr<=9223372036854775807) :
    Calls Tryz.prog 220 #[tcV tr vw vh] w fun e w'=>e=.returned (.bool (decide (th.length=tw.length) && hisB tr th))/\Below w.heap.size w w':=by
  obtain ⟨aw,cw,rfl⟩:=hw.shape
  obtain ⟨ah,ch,rfl⟩:=hh.shape
  have HX:Hid ((decide (th.length=tw.length) && hisB tr th)=(hisB tr th && decide (th.length=tw.length))):=hide (Bool.and_comm _ _)
  generalize (decide (th.length=tw.length) && hisB tr th)=X at HX ⊢
  simp only [tcV]
  obtain ⟨w1,hw1⟩:∃ x,w.alloc (.cells #[.int .i64 tr,.slice aw tw.length cw,.slice ah th.length ch] 47)=x:=⟨_,rfl⟩
  have b1:Below w.heap.size w w1:=by rw [<- hw1];exact (Below.refl _ w).alloc (Nat.le_refl _) _
  have k1:Blk w1 w.heap.size 47 [.int .i64 tr,.slice aw tw.length cw,.slice ah th.length ch]:=by rw [<- hw1];exact Blk.new w _ _
  have Hh:=hide hh
  have K1:=hide k1
  have HB1:=hide b1
  have x2:=k1.cell 2
  simp only [List.getElem?_cons_zero,List.getElem?_cons_succ] at x2
  have hwr:IntKind.i64.wrap (tr - 1)=tr - 1:=by rw [IntKind.wrap_i64];omega
  clear hw hh k1 b1 h1 h2
  go_enter Tryz.func220,Tryz.ntmps220
  go_wp2
  clear x2 hw1
  go_loopw [8] (fun iv wr=>∃ i:Nat,i<=th.length/\iv=.int .i64 (i:Int)/\(∀ j (hj:j < th.length),j < i->inB th[j] 0 (tr - 1)=true)/\Below w1.heap.size w1 wr) (fun iv _=>th.length - (intOf iv).toNat)
  case atStart=>exact ⟨0,Nat.zero_le _,rfl,fun j _ hj=>by omega,Below.refl _ _⟩
  case round =>
    obtain ⟨i,hi,rfl,hok,hb⟩:=hrel
    have kr:=K1.out.below hb K1.out.lt
    have t0:=kr.cell 0
    have t1:=kr.cell 1
    have t2:=kr.cell 2
    simp only [List.getElem?_cons_zero,List.getElem?_cons_succ] at t0 t1 t2
    have Hok:=hide hok
    have HBr:=hide (HB1.out.trans (hb.mono HB1.out.size))
    clear hok kr
    by_cases hlt:i < th.length
    · obtain ⟨bh,oh,rfl,hc1,hc2,hbh,hch⟩:=Hh.out.at hlt
      have c0:=(HBr.out.cell (p:=⟨bh,oh+i,none⟩) hbh).trans hch
      have hli:(i:Int) < (th.length:Int):=by omega
      have Hno:=hide (his_no tr th i hlt)
      have Hnx:Hid (inB th[i] 0 (tr - 1)=true->∀ j (hj:j < th.length),j < i+1->inB th[j] 0 (tr - 1)=true):=hide (fun h j hj hji=>by
        by_cases e:j=i
        · subst e;exact h
        · exact Hok.out j hj (by omega))
      generalize th[i]=x at c0 hch Hno Hnx
      have Hb:=hide hb
      clear hb hch
      cases hx:inB x 0 (tr - 1)
      · have Hf:=hide (HX.out.trans (by rw [Hno.out hx,Bool.false_and]))
        have HI:=hide (fun W=>implWithinC_any x 0 (tr - 1) W)
        rw [hx] at HI
        clear hx Hnx
        go_wp2_with (go_at_call 53;refine (HI.out _).mono ?_;rintro e w4 ⟨rfl,rfl⟩)
        go_ret
        exact ⟨ret_bool Hf.out.symm,HBr.out⟩
      · have Hnx:=hide (Hnx.out hx)
        have HI:=hide (fun W=>implWithinC_any x 0 (tr - 1) W)
        rw [hx] at HI
        clear hx Hno
        go_wp2_with (go_at_call 53;refine (HI.out _).mono ?_;rintro e w4 ⟨rfl,rfl⟩)
        go_roundw
        case rel=>exact ⟨i+1,by omega,by go_num,Hnx.out,Hb.out⟩
        case measure=>simp [intOf];omega
    · have Hy:=his_yes tr th (fun j hj=>Hok.out j hj (by omega))
      clear hb
      by_cases hlen:th.length=tw.length
      · have Hf:=hide (HX.out.trans (by rw [Hy,Bool.true_and,decide_eq_true hlen]))
        have hli:((th.length:Int) == (tw.length:Int))=true:=by rw [hlen];simp
        clear hlen Hy
        go_wp2
        go_ret
        exact ⟨ret_bool Hf.out.symm,HBr.out⟩
      · have Hf:=hide (HX.out.trans (by rw [Hy,Bool.true_and,decide_eq_false hlen]))
        have hli:((th.length:Int) == (tw.length:Int))=false:=by rw [beq_eq_false_iff_ne];omega
        clear hlen Hy
        go_wp2
        go_ret
        exact ⟨ret_bool Hf.out.symm,HBr.out⟩
def h9B (b:Bk):Bool:=inB b.id 0 100000 && (inB b.ep 0 900 && (inB b.rd 1 10000 && nmB b.md))
theorem implHead_any (b:Bk) (v:Bv) (w:World) (hr:RdK w b v) (hf:FewK b) :
    Calls Tryz.prog 186 #[bkV b v] w fun e w'=>e=.returned (.bool (h9B b))/\Below w.heap.size w w':=by
  have HM:=hide (fun V=>implNameOk_any b.md V hf.ms)
  have HX:Hid (h9B b=(inB b.id 0 100000 && (inB b.ep 0 900 && (inB b.rd 1 10000 && nmB b.md)))):=hide rfl
  generalize h9B b=X at HX ⊢
  clear hf
  obtain ⟨id,ep,rd,mk,qr,qb,qw,tr,tw,th,ts,en,nx,rt⟩:=b
  obtain ⟨vq,vw,vh,vt,vn⟩:=v
  obtain ⟨hq,hw,hh,ht,hn⟩:=hr
  simp only [bkV] at *
  obtain ⟨aq,cq,rfl⟩:=hq.shape
  obtain ⟨aw,cw,rfl⟩:=hw.shape
  obtain ⟨ah,ch,rfl⟩:=hh.shape
  obtain ⟨at_,ct,rfl⟩:=ht.shape
  obtain ⟨an,cn,rfl⟩:=hn.shape
  obtain ⟨w1,hw1⟩:∃ x,w.alloc (.cells #[.int .i64 id,.int .i64 ep,.int .i64 rd,.string mk,.int .i64 qr,.int .i64 qb,.slice aq qw.length cq,.int .i64 tr,.slice aw tw.length cw,.slice ah th.length ch,.slice at_ ts.length ct,.bool en,.slice an nx.length cn,.string rt] 50)=x:=⟨_,rfl⟩
  have b1:Below w.heap.size w w1:=by rw [<- hw1];exact (Below.refl _ w).alloc (Nat.le_refl _) _
  have k1:Blk w1 w.heap.size 50 [.int .i64 id,.int .i64 ep,.int .i64 rd,.string mk,.int .i64 qr,.int .i64 qb,.slice aq qw.length cq,.int .i64 tr,.slice aw tw.length cw,.slice ah th.length ch,.slice at_ ts.length ct,.bool en,.slice an nx.length cn,.string rt]:=by rw [<- hw1];exact Blk.new w _ _
  have K1:=hide k1
  have HB1:=hide b1
  have x0:=k1.cell 0
  have x1:=k1.cell 1
  have x2:=k1.cell 2
  have x3:=k1.cell 3
  simp only [List.getElem?_cons_zero,List.getElem?_cons_succ] at x0 x1 x2 x3
  clear hq hw hh ht hn k1 b1
  generalize nmB mk=M0 at HX HM
  cases h1:inB id 0 100000
  · rw [h1,Bool.false_and] at HX
    go_enter Tryz.func186,Tryz.ntmps186
    go_wp2_with (go_at_call 53;refine (implWithinC_any _ _ _ _).mono ?_;rintro e w4 ⟨rfl,rfl⟩)
    go_ret
    exact ⟨ret_bool HX.out.symm,HB1.out⟩
  · rw [h1,Bool.true_and] at HX
    cases h2:inB ep 0 900
    · rw [h2,Bool.false_and] at HX
      go_enter Tryz.func186,Tryz.ntmps186
      go_wp2_with (go_at_call 53;refine (implWithinC_any _ _ _ _).mono ?_;rintro e w4 ⟨rfl,rfl⟩)
      go_ret
      exact ⟨ret_bool HX.out.symm,HB1.out⟩
    · rw [h2,Bool.true_and] at HX
      cases h3:inB rd 1 10000
      · rw [h3,Bool.false_and] at HX
        go_enter Tryz.func186,Tryz.ntmps186
        go_wp2_with (go_at_call 53;refine (implWithinC_any _ _ _ _).mono ?_;rintro e w4 ⟨rfl,rfl⟩)
        go_ret
        exact ⟨ret_bool HX.out.symm,HB1.out⟩
      · rw [h3,Bool.true_and] at HX
        go_enter Tryz.func186,Tryz.ntmps186
        go_wp2_with (first
          | (go_at_call 53;refine (implWithinC_any _ _ _ _).mono ?_;rintro e w4 ⟨rfl,rfl⟩)
          | (go_at_call 163;refine (HM.out _).mono ?_;rintro e w5 ⟨rfl,rfl⟩))
        go_ret
        exact ⟨ret_bool HX.out.symm,HB1.out⟩
def qcF (qr qb:Int) (qw:List ByteArray) (lr lb:Int):Bool:=rootB qr qb qw || (inB qr 1 lr && (inB qb 0 lb && nmsB qw))
theorem implQcForm_any (qr qb lr lb:Int) (vq:Value) (qw:List ByteArray) (w:World) (hq:RdS w vq qw) (hlq:qw.length<=4000000) (hsq:∀ s ∈ qw,s.size<=maxLen) :
    Calls Tryz.prog 187 #[qcV qr qb vq,.int .i64 lr,.int .i64 lb] w fun e w'=>e=.returned (.bool (qcF qr qb qw lr lb))/\Below w.heap.size w w':=by
  have HX:Hid (qcF qr qb qw lr lb=(rootB qr qb qw || (inB qr 1 lr && (inB qb 0 lb && nmsB qw)))):=hide rfl
  generalize qcF qr qb qw lr lb=X at HX ⊢
  obtain ⟨aq,cq,rfl⟩:=hq.shape
  simp only [qcV]
  obtain ⟨w1,hw1⟩:∃ x,w.alloc (.cells #[.int .i64 qr,.int .i64 qb,.slice aq qw.length cq] 44)=x:=⟨_,rfl⟩
  have b1:Below w.heap.size w w1:=by rw [<- hw1];exact (Below.refl _ w).alloc (Nat.le_refl _) _
  have k1:Blk w1 w.heap.size 44 [.int .i64 qr,.int .i64 qb,.slice aq qw.length cq]:=by rw [<- hw1];exact Blk.new w _ _
  have K1:=hide k1
  have HB1:=hide b1
  have HR:=hide (implIsRootQc_any qr qb (.slice aq qw.length cq) qw w1 (hq.below b1 (Nat.le_refl _)) hlq)
  have HN:=hide (fun V (hV:Below w.heap.size w V)=>implNamesOk_any (.slice aq qw.length cq) qw V (hq.below hV (Nat.le_refl _)) hlq hsq)
  generalize rootB qr qb qw=R0 at HX HR
  generalize nmsB qw=N0 at HX HN
  simp only [qcV] at HR
  have x0:=k1.cell 0
  have x1:=k1.cell 1
  have x2:=k1.cell 2
  simp only [List.getElem?_cons_zero,List.getElem?_cons_succ] at x0 x1 x2
  clear hq k1 b1 hsq
  go_enter Tryz.func187,Tryz.ntmps187
  go_wp2_with fail
  refine HR.out.mono ?_
  rintro e w3 ⟨rfl,hb3⟩
  have hB3:=HB1.out.trans (hb3.mono HB1.out.size)
  have k3:=K1.out.below hb3 K1.out.lt
  have HN3:=hide (HN.out w3 hB3)
  clear x0 x1 x2 HN hw1
  have y0:=k3.cell 0
  have y1:=k3.cell 1
  have y2:=k3.cell 2
  simp only [List.getElem?_cons_zero,List.getElem?_cons_succ] at y0 y1 y2
  have HB3:=hide hB3
  clear k3 hb3 hB3
  cases R0
  · rw [Bool.false_or] at HX
    cases h1:inB qr 1 lr
    · rw [h1,Bool.false_and] at HX
      go_wp2_with (go_at_call 53;refine (implWithinC_any _ _ _ _).mono ?_;rintro e w4 ⟨rfl,rfl⟩)
      go_ret
      exact ⟨ret_bool HX.out.symm,HB3.out⟩
    · rw [h1,Bool.true_and] at HX
      cases h2:inB qb 0 lb
      · rw [h2,Bool.false_and] at HX
        go_wp2_with (go_at_call 53;refine (implWithinC_any _ _ _ _).mono ?_;rintro e w4 ⟨rfl,rfl⟩)
        go_ret
        exact ⟨ret_bool HX.out.symm,HB3.out⟩
      · rw [h2,Bool.true_and] at HX
        go_wp2_with (first
          | (go_at_call 53;refine (implWithinC_any _ _ _ _).mono ?_;rintro e w4 ⟨rfl,rfl⟩)
          | (go_at_call 218;refine HN3.out.mono ?_;rintro e w5 ⟨rfl,rfl⟩))
        go_ret
        exact ⟨ret_bool HX.out.symm,HB3.out⟩
  · rw [Bool.true_or] at HX
    go_wp2
    go_ret
    exact ⟨ret_bool HX.out.symm,HB3.out⟩
def tcF (tr:Int) (tw:List ByteArray) (th:List Int) (lr:Int):Bool:=noneB tr tw th || (inB tr 1 lr && (nmsB tw && (decide (th.length=tw.length) && hisB tr th)))
theorem implTcForm_any (tr lr:Int) (vw vh:Value) (tw:List ByteArray) (th:List Int) (w:World) (hw:RdS w vw tw) (hh:RdI w vh th) (hlw:tw.length<=4000000) (hlh:th.length<=4000000) (hsw:∀ s ∈ tw,s.size<=maxLen) (hbd:tr<=9223372036854775807) :
    Calls Tryz.prog 188 #[tcV tr vw vh,.int .i64 lr] w fun e w'=>e=.returned (.bool (tcF tr tw th lr))/\Below w.heap.size w w':=by
  have HX:Hid (tcF tr tw th lr=(noneB tr tw th || (inB tr 1 lr && (nmsB tw && (decide (th.length=tw.length) && hisB tr th))))):=hide rfl
  generalize tcF tr tw th lr=X at HX ⊢
  obtain ⟨aw,cw,rfl⟩:=hw.shape
  obtain ⟨ah,ch,rfl⟩:=hh.shape
  simp only [tcV]
  obtain ⟨w1,hw1⟩:∃ x,w.alloc (.cells #[.int .i64 tr,.slice aw tw.length cw,.slice ah th.length ch] 47)=x:=⟨_,rfl⟩
  have b1:Below w.heap.size w w1:=by rw [<- hw1];exact (Below.refl _ w).alloc (Nat.le_refl _) _
  have k1:Blk w1 w.heap.size 47 [.int .i64 tr,.slice aw tw.length cw,.slice ah th.length ch]:=by rw [<- hw1];exact Blk.new w _ _
  have K1:=hide k1
  have HB1:=hide b1
  have HR:=hide (implNoTc_any tr (.slice aw tw.length cw) (.slice ah th.length ch) tw th w1 (hw.below b1 (Nat.le_refl _)) (hh.below b1 (Nat.le_refl _)) hlw hlh)
  have HN:=hide (fun V (hV:Below w.heap.size w V)=>implNamesOk_any (.slice aw tw.length cw) tw V (hw.below hV (Nat.le_refl _)) hlw hsw)
  have HH:=hide (fun (h1:1<=tr) V (hV:Below w.heap.size w V)=>implHighs_any tr (.slice aw tw.length cw) (.slice ah th.length ch) tw th V (hw.below hV (Nat.le_refl _)) (hh.below hV (Nat.le_refl _)) hlw hlh h1 hbd)
  generalize noneB tr tw th=R0 at HX HR
  generalize nmsB tw=N0 at HX HN
  generalize (decide (th.length=tw.length) && hisB tr th)=G0 at HX HH
  simp only [tcV] at HR HH
  have x0:=k1.cell 0
  have x1:=k1.cell 1
  have x2:=k1.cell 2
  simp only [List.getElem?_cons_zero,List.getElem?_cons_succ] at x0 x1 x2
  clear hw hh k1 b1 hsw
  go_enter Tryz.func188,Tryz.ntmps188
  go_wp2_with fail
  refine HR.out.mono ?_
  rintro e w3 ⟨rfl,hb3⟩
  have hB3:=HB1.out.trans (hb3.mono HB1.out.size)
  have k3:=K1.out.below hb3 K1.out.lt
  have HN3:=hide (HN.out w3 hB3)
  clear x0 x1 x2 HN hw1
  have y0:=k3.cell 0
  have y1:=k3.cell 1
  have y2:=k3.cell 2
  simp only [List.getElem?_cons_zero,List.getElem?_cons_succ] at y0 y1 y2
  have HB3:=hide hB3
  clear k3 hb3 hB3
  cases R0
  · rw [Bool.false_or] at HX
    cases h1:inB tr 1 lr
    · rw [h1,Bool.false_and] at HX
      go_wp2_with (go_at_call 53;refine (implWithinC_any _ _ _ _).mono ?_;rintro e w4 ⟨rfl,rfl⟩)
      go_ret
      exact ⟨ret_bool HX.out.symm,HB3.out⟩
    · rw [h1,Bool.true_and] at HX
      have Hr1:Hid (1<=tr):=hide (by unfold inB at h1;simp at h1;exact h1.1)
      have HH3:=hide (HH.out Hr1.out w3 HB3.out)
      cases N0
      · rw [Bool.false_and] at HX
        go_wp2_with (first
          | (go_at_call 53;refine (implWithinC_any _ _ _ _).mono ?_;rintro e w4 ⟨rfl,rfl⟩)
          | (go_at_call 218;refine HN3.out.mono ?_;rintro e w5 ⟨rfl,rfl⟩))
        go_ret
        exact ⟨ret_bool HX.out.symm,HB3.out⟩
      · rw [Bool.true_and] at HX
        go_wp2_with (first
          | (go_at_call 53;refine (implWithinC_any _ _ _ _).mono ?_;rintro e w4 ⟨rfl,rfl⟩)
          | (go_at_call 218;refine HN3.out.mono ?_;rintro e w5 ⟨rfl,rfl⟩)
          | (go_at_call 220;refine HH3.out.mono ?_;rintro e w6 ⟨rfl,hb6⟩))
        go_ret
        exact ⟨ret_bool HX.out.symm,HB3.out.trans (hb6.mono HB3.out.size)⟩
  · rw [Bool.true_or] at HX
    go_wp2
    go_ret
    exact ⟨ret_bool HX.out.symm,HB3.out⟩
theorem implTxs_any (v:Value) (ts:List Tx5) (w:World) (hr:RdT w v ts) (hl:ts.length<=4000000) (hs:∀ t ∈ ts,t.2.1.size<=maxLen/\t.2.2.1.size<=maxLen) :
    Calls Tryz.prog 189 #[v] w fun e w'=>e=.returned (.bool (decide (ts.length<=4) && ts.all txB))/\Below w.heap.size w w':=by
  obtain ⟨X,hX⟩:∃ X,X=(decide (ts.length<=4) && ts.all txB):=⟨_,rfl⟩
  rw [<- hX]
  have HX:=hide hX
  clear hX
  obtain ⟨at_,ct,rfl⟩:=hr.shape
  have Ht:=hide hr
  have Hs:=hide hs
  clear hr hs
  by_cases h4:ts.length<=4
  · rw [decide_eq_true h4,Bool.true_and] at HX
    have h4i:¬ (4:Int) < (ts.length:Int):=by omega
    go_enter Tryz.func189,Tryz.ntmps189
    go_wp2
    go_loopw [10] (fun iv wr=>∃ i:Nat,i<=ts.length/\iv=.int .i64 (i:Int)/\(∀ j (hj:j < ts.length),j < i->txB ts[j]=true)/\Below w.heap.size w wr) (fun iv _=>ts.length - (intOf iv).toNat)
    case atStart=>exact ⟨0,Nat.zero_le _,rfl,fun j _ hj=>by omega,Below.refl _ _⟩
    case round =>
      obtain ⟨i,hi,rfl,hok,hb⟩:=hrel
      have Hok:=hide hok
      clear hok
      by_cases hlt:i < ts.length
      · obtain ⟨bt,ot,rfl,hc1,hc2,hbt,hat⟩:=Ht.out.at9 hlt
        have hli:(i:Int) < (ts.length:Int):=by omega
        have hat':=hat.below hb hbt
        have hsz:=Hs.out ts[i] (List.getElem_mem _)
        have HO:=hide (fun V=>implTxOk_any ts[i] V hsz.1 hsz.2)
        have Hno:=hide (txs_no ts i hlt)
        have Hnx:Hid (txB ts[i]=true->∀ j (hj:j < ts.length),j < i+1->txB ts[j]=true):=hide (fun h j hj hji=>by
          by_cases e:j=i
          · subst e;exact h
          · exact Hok.out j hj (by omega))
        generalize ts[i]=tx at hat hat' HO Hno Hnx hsz
        obtain ⟨c0,c1,c2,c3,c4⟩:=hat'
        obtain ⟨kd,fr,tn9,am,no⟩:=tx
        simp only [txV] at HO c0 c1 c2 c3 c4
        obtain ⟨w1,hw1⟩:∃ x,wr.alloc (.cells #[.int .i64 kd,.string fr,.string tn9,.int .i64 am,.int .i64 no] 35)=x:=⟨_,rfl⟩
        have b1:Below w.heap.size w w1:=by rw [<- hw1];exact hb.alloc hb.size _
        have k1:Blk w1 wr.heap.size 35 [.int .i64 kd,.string fr,.string tn9,.int .i64 am,.int .i64 no]:=by rw [<- hw1];exact Blk.new wr _ _
        have x0:=k1.cell 0
        have x1:=k1.cell 1
        have x2:=k1.cell 2
        have x3:=k1.cell 3
        have x4:=k1.cell 4
        simp only [List.getElem?_cons_zero,List.getElem?_cons_succ] at x0 x1 x2 x3 x4
        have HB1:=hide b1
        clear hat hb hsz b1 k1
        cases hx:txB (kd,fr,tn9,am,no)
        · have Hfl:=hide (HX.out.trans (Hno.out hx))
          rw [hx] at HO
          clear hx Hnx
          go_wp2_with fail
          refine (HO.out _).mono ?_
          rintro e w6 ⟨rfl,hb6⟩
          have HB6:=hide (HB1.out.trans (hb6.mono HB1.out.size))
          clear hb6 c0 c1 c2 c3 c4 x0 x1 x2 x3 x4
          go_wp2
          go_ret
          exact ⟨ret_bool Hfl.out.symm,HB6.out⟩
        · have Hnx:=hide (Hnx.out hx)
          rw [hx] at HO
          clear hx Hno
          go_wp2_with fail
          refine (HO.out _).mono ?_
          rintro e w6 ⟨rfl,hb6⟩
          have HB6:=hide (HB1.out.trans (hb6.mono HB1.out.size))
          clear hb6 c0 c1 c2 c3 c4 x0 x1 x2 x3 x4
          go_wp2
          go_roundw
          case rel=>exact ⟨i+1,by omega,by go_num,Hnx.out,HB6.out⟩
          case measure=>simp [intOf];omega
      · have Hfl:=hide (HX.out.trans (txs_yes ts (fun j hj=>Hok.out j hj (by omega))))
        have Hb:=hide hb
        clear hb
        go_wp2
        go_ret
        exact ⟨ret_bool Hfl.out.symm,Hb.out⟩
  · rw [decide_eq_false h4,Bool.false_and] at HX
    have h4i:(4:Int) < (ts.length:Int):=by omega
    go_enter Tryz.func189,Tryz.ntmps189
    go_wp2
    go_ret
    exact ⟨ret_bool HX.out.symm,Below.refl _ _⟩
theorem implEnd_any (b:Bk) (v:Bv) (w:World) (hr:RdK w b v) (hf:FewK b) :
    Calls Tryz.prog 190 #[bkV b v] w fun e w'=>e=.returned (.bool (e9B b))/\Below w.heap.size w w':=by
  have hfn:=hf.n
  have hfs:=hf.ns
  have HE:Hid (e9B b=if b.en=true then setB b.nx && decide (b.rt.size=32) else decide (b.nx.length=0) && decide (b.rt=⟨#[]⟩)):=hide rfl
  generalize e9B b=X at HE ⊢
  clear hf
  obtain ⟨id,ep,rd,mk,qr,qb,qw,tr,tw,th,ts,en,nx,rt⟩:=b
  obtain ⟨vq,vw,vh,vt,vn⟩:=v
  obtain ⟨hq,hw,hh,ht,hn⟩:=hr
  simp only [bkV] at *
  obtain ⟨aq,cq,rfl⟩:=hq.shape
  obtain ⟨aw,cw,rfl⟩:=hw.shape
  obtain ⟨ah,ch,rfl⟩:=hh.shape
  obtain ⟨at_,ct,rfl⟩:=ht.shape
  obtain ⟨an,cn,rfl⟩:=hn.shape
  obtain ⟨w1,hw1⟩:∃ x,w.alloc (.cells #[.int .i64 id,.int .i64 ep,.int .i64 rd,.string mk,.int .i64 qr,.int .i64 qb,.slice aq qw.length cq,.int .i64 tr,.slice aw tw.length cw,.slice ah th.length ch,.slice at_ ts.length ct,.bool en,.slice an nx.length cn,.string rt] 50)=x:=⟨_,rfl⟩
  have b1:Below w.heap.size w w1:=by rw [<- hw1];exact (Below.refl _ w).alloc (Nat.le_refl _) _
  have k1:Blk w1 w.heap.size 50 [.int .i64 id,.int .i64 ep,.int .i64 rd,.string mk,.int .i64 qr,.int .i64 qb,.slice aq qw.length cq,.int .i64 tr,.slice aw tw.length cw,.slice ah th.length ch,.slice at_ ts.length ct,.bool en,.slice an nx.length cn,.string rt]:=by rw [<- hw1];exact Blk.new w _ _
  have K1:=hide k1
  have HB1:=hide b1
  have HS:=hide (implSetOk_any (.slice an nx.length cn) nx w1 (hn.below b1 (Nat.le_refl _)) hfn hfs)
  have x11:=k1.cell 11
  have x12:=k1.cell 12
  have x13:=k1.cell 13
  simp only [List.getElem?_cons_zero,List.getElem?_cons_succ] at x11 x12 x13
  clear hq hw hh ht hn k1 b1 hfs
  cases en
  · rw [if_neg (by simp)] at HE
    by_cases h5:nx.length=0
    · have h5i:((nx.length:Int) == 0)=true:=by rw [beq_iff_eq];omega
      by_cases h6:rt=⟨#[]⟩
      · have Hfl:=hide (HE.out.trans (by rw [decide_eq_true h5,decide_eq_true h6,Bool.true_and]))
        subst h6
        clear h5 HE
        go_enter Tryz.func190,Tryz.ntmps190
        go_wp2
        go_ret
        exact ⟨ret_bool Hfl.out.symm,HB1.out⟩
      · have Hfl:=hide (HE.out.trans (by rw [decide_eq_false h6,Bool.and_false]))
        have h6b:=noText h6
        clear h5 h6 HE
        go_enter Tryz.func190,Tryz.ntmps190
        go_wp2
        go_ret
        exact ⟨ret_bool Hfl.out.symm,HB1.out⟩
    · have Hfl:=hide (HE.out.trans (by rw [decide_eq_false h5,Bool.false_and]))
      have h5i:((nx.length:Int) == 0)=false:=by rw [beq_eq_false_iff_ne];omega
      clear h5 HE
      go_enter Tryz.func190,Tryz.ntmps190
      go_wp2
      go_ret
      exact ⟨ret_bool Hfl.out.symm,HB1.out⟩
  · rw [if_pos rfl] at HE
    generalize setB nx=S0 at HE HS
    cases S0
    · have Hfl:=hide (HE.out.trans (by rw [Bool.false_and]))
      clear HE
      go_enter Tryz.func190,Tryz.ntmps190
      go_wp2_with (go_at_call 221;refine HS.out.mono ?_;rintro e w7 ⟨rfl,hb7⟩)
      go_ret
      exact ⟨ret_bool Hfl.out.symm,HB1.out.trans (hb7.mono HB1.out.size)⟩
    · by_cases h8:rt.size=32
      · have Hfl:=hide (HE.out.trans (by rw [decide_eq_true h8,Bool.true_and]))
        have h8i:((rt.size:Int) == 32)=true:=by rw [beq_iff_eq];omega
        clear h8 HE
        go_enter Tryz.func190,Tryz.ntmps190
        go_wp2_with (go_at_call 221;refine HS.out.mono ?_;rintro e w7 ⟨rfl,hb7⟩;have k7:=K1.out.below hb7 K1.out.lt;have u13:=k7.cell 13;simp only [List.getElem?_cons_zero,List.getElem?_cons_succ] at u13)
        go_ret
        exact ⟨ret_bool Hfl.out.symm,HB1.out.trans (hb7.mono HB1.out.size)⟩
      · have Hfl:=hide (HE.out.trans (by rw [decide_eq_false h8,Bool.true_and]))
        have h8i:((rt.size:Int) == 32)=false:=by rw [beq_eq_false_iff_ne];omega
        clear h8 HE
        go_enter Tryz.func190,Tryz.ntmps190
        go_wp2_with (go_at_call 221;refine HS.out.mono ?_;rintro e w7 ⟨rfl,hb7⟩;have k7:=K1.out.below hb7 K1.out.lt;have u13:=k7.cell 13;simp only [List.getElem?_cons_zero,List.getElem?_cons_succ] at u13)
        go_ret
        exact ⟨ret_bool Hfl.out.symm,HB1.out.trans (hb7.mono HB1.out.size)⟩
theorem implBlockOk_any (b:Bk) (v:Bv) (w:World) (hr:RdK w b v) (hf:FewK b) (hbd:-9223372036854775808<=b.tr/\b.tr<=9223372036854775807) :
    Calls Tryz.prog 136 #[bkV b v] w fun e w'=>e=.returned (.bool (blB b))/\Below w.heap.size w w':=by
  have HH:=hide (fun V (hV:Below w.heap.size w V)=>implHead_any b v V (hr.below hV (Nat.le_refl _)) hf)
  have HQ:Hid (∀ V,Below w.heap.size w V->Calls Tryz.prog 187 #[qcV b.qr b.qb v.q,.int .i64 (wrap64 (b.rd - 1)),.int .i64 (wrap64 (b.id - 1))] V fun e w'=>e=.returned (.bool (q9B b))/\Below V.heap.size V w') :=
    hide (fun V hV=>implQcForm_any b.qr b.qb _ _ v.q b.qw V (hr.q.below hV (Nat.le_refl _)) hf.q hf.qs)
  have HT:Hid (∀ V,Below w.heap.size w V->Calls Tryz.prog 188 #[tcV b.tr v.w v.h,.int .i64 (wrap64 (b.rd - 1))] V fun e w'=>e=.returned (.bool (t9B b))/\Below V.heap.size V w') :=
    hide (fun V hV=>implTcForm_any b.tr _ v.w v.h b.tw b.th V (hr.p.below hV (Nat.le_refl _)) (hr.h.below hV (Nat.le_refl _)) hf.w hf.h hf.ws hbd.2)
  have HO:=hide (fun V (hV:Below w.heap.size w V)=>implTxs_any v.t b.ts V (hr.t.below hV (Nat.le_refl _)) hf.t hf.ts)
  have HE:=hide (fun V (hV:Below w.heap.size w V)=>implEnd_any b v V (hr.below hV (Nat.le_refl _)) hf)
  have HX:Hid (blB b=(h9B b && (q9B b && (t9B b && ((decide (b.ts.length<=4) && b.ts.all txB) && e9B b))))):=hide (by
    unfold blB h9B
    simp only [Bool.and_assoc])
  generalize blB b=X at HX ⊢
  generalize h9B b=H0 at HX HH
  generalize q9B b=Q0 at HX HQ
  generalize t9B b=T0 at HX HT
  generalize (decide (b.ts.length<=4) && b.ts.all txB)=O0 at HX HO
  generalize e9B b=E0 at HX HE
  clear hf hbd
  obtain ⟨id,ep,rd,mk,qr,qb,qw,tr,tw,th,ts,en,nx,rt⟩:=b
  obtain ⟨vq,vw,vh,vt,vn⟩:=v
  obtain ⟨hq,hw,hh,ht,hn⟩:=hr
  simp only [bkV,qcV,tcV] at *
  have e1:IntKind.i64.wrap (rd - 1)=wrap64 (rd - 1):=by rw [IntKind.wrap_i64];unfold wrap64;omega
  have e2:IntKind.i64.wrap (id - 1)=wrap64 (id - 1):=by rw [IntKind.wrap_i64];unfold wrap64;omega
  generalize wrap64 (rd - 1)=D1 at HQ HT e1
  generalize wrap64 (id - 1)=D2 at HQ e2
  obtain ⟨aq,cq,rfl⟩:=hq.shape
  obtain ⟨aw,cw,rfl⟩:=hw.shape
  obtain ⟨ah,ch,rfl⟩:=hh.shape
  obtain ⟨at_,ct,rfl⟩:=ht.shape
  obtain ⟨an,cn,rfl⟩:=hn.shape
  obtain ⟨w1,hw1⟩:∃ x,w.alloc (.cells #[.int .i64 id,.int .i64 ep,.int .i64 rd,.string mk,.int .i64 qr,.int .i64 qb,.slice aq qw.length cq,.int .i64 tr,.slice aw tw.length cw,.slice ah th.length ch,.slice at_ ts.length ct,.bool en,.slice an nx.length cn,.string rt] 50)=x:=⟨_,rfl⟩
  have b1:Below w.heap.size w w1:=by rw [<- hw1];exact (Below.refl _ w).alloc (Nat.le_refl _) _
  have k1:Blk w1 w.heap.size 50 [.int .i64 id,.int .i64 ep,.int .i64 rd,.string mk,.int .i64 qr,.int .i64 qb,.slice aq qw.length cq,.int .i64 tr,.slice aw tw.length cw,.slice ah th.length ch,.slice at_ ts.length ct,.bool en,.slice an nx.length cn,.string rt]:=by rw [<- hw1];exact Blk.new w _ _
  have K1:=hide k1
  have HB1:=hide b1
  clear hq hw hh ht hn
  have HH1:=hide (HH.out w1 b1)
  have x0:=k1.cell 0
  have x1:=k1.cell 1
  have x2:=k1.cell 2
  have x3:=k1.cell 3
  have x4:=k1.cell 4
  have x5:=k1.cell 5
  have x6:=k1.cell 6
  have x7:=k1.cell 7
  have x8:=k1.cell 8
  have x9:=k1.cell 9
  have x10:=k1.cell 10
  have x11:=k1.cell 11
  have x12:=k1.cell 12
  have x13:=k1.cell 13
  simp only [List.getElem?_cons_zero,List.getElem?_cons_succ] at x0 x1 x2 x3 x4 x5 x6 x7 x8 x9 x10 x11 x12 x13
  clear k1 b1 HH
  cases H0
  · rw [Bool.false_and] at HX
    go_enter Tryz.func136,Tryz.ntmps136
    go_wp2_with (first
        | (go_at_call 186;refine HH1.out.mono ?_;rintro e w2 ⟨rfl,hb2⟩;have hB2:=HB1.out.trans (hb2.mono HB1.out.size);have k2:=K1.out.below hb2 K1.out.lt;have y0:=k2.cell 0;have y1:=k2.cell 1;have y2:=k2.cell 2;have y3:=k2.cell 3;have y4:=k2.cell 4;have y5:=k2.cell 5;have y6:=k2.cell 6;have y7:=k2.cell 7;have y8:=k2.cell 8;have y9:=k2.cell 9;have y10:=k2.cell 10;have y11:=k2.cell 11;have y12:=k2.cell 12;have y13:=k2.cell 13;simp only [List.getElem?_cons_zero,List.getElem?_cons_succ] at y0 y1 y2 y3 y4 y5 y6 y7 y8 y9 y10 y11 y12 y13))
    go_ret
    exact ⟨ret_bool HX.out.symm,hB2⟩
  · rw [Bool.true_and] at HX
    cases Q0
    · rw [Bool.false_and] at HX
      go_enter Tryz.func136,Tryz.ntmps136
      go_wp2_with (first
          | (go_at_call 186;refine HH1.out.mono ?_;rintro e w2 ⟨rfl,hb2⟩;have hB2:=HB1.out.trans (hb2.mono HB1.out.size);have k2:=K1.out.below hb2 K1.out.lt;have y0:=k2.cell 0;have y1:=k2.cell 1;have y2:=k2.cell 2;have y3:=k2.cell 3;have y4:=k2.cell 4;have y5:=k2.cell 5;have y6:=k2.cell 6;have y7:=k2.cell 7;have y8:=k2.cell 8;have y9:=k2.cell 9;have y10:=k2.cell 10;have y11:=k2.cell 11;have y12:=k2.cell 12;have y13:=k2.cell 13;simp only [List.getElem?_cons_zero,List.getElem?_cons_succ] at y0 y1 y2 y3 y4 y5 y6 y7 y8 y9 y10 y11 y12 y13)
          | (go_at_call 187;refine (HQ.out w2 hB2).mono ?_;rintro e w3 ⟨rfl,hb3⟩;have hB3:=hB2.trans (hb3.mono hB2.size);have k3:=k2.below hb3 k2.lt;have z0:=k3.cell 0;have z1:=k3.cell 1;have z2:=k3.cell 2;have z3:=k3.cell 3;have z4:=k3.cell 4;have z5:=k3.cell 5;have z6:=k3.cell 6;have z7:=k3.cell 7;have z8:=k3.cell 8;have z9:=k3.cell 9;have z10:=k3.cell 10;have z11:=k3.cell 11;have z12:=k3.cell 12;have z13:=k3.cell 13;simp only [List.getElem?_cons_zero,List.getElem?_cons_succ] at z0 z1 z2 z3 z4 z5 z6 z7 z8 z9 z10 z11 z12 z13))
      go_ret
      exact ⟨ret_bool HX.out.symm,hB3⟩
    · rw [Bool.true_and] at HX
      cases T0
      · rw [Bool.false_and] at HX
        go_enter Tryz.func136,Tryz.ntmps136
        go_wp2_with (first
            | (go_at_call 186;refine HH1.out.mono ?_;rintro e w2 ⟨rfl,hb2⟩;have hB2:=HB1.out.trans (hb2.mono HB1.out.size);have k2:=K1.out.below hb2 K1.out.lt;have y0:=k2.cell 0;have y1:=k2.cell 1;have y2:=k2.cell 2;have y3:=k2.cell 3;have y4:=k2.cell 4;have y5:=k2.cell 5;have y6:=k2.cell 6;have y7:=k2.cell 7;have y8:=k2.cell 8;have y9:=k2.cell 9;have y10:=k2.cell 10;have y11:=k2.cell 11;have y12:=k2.cell 12;have y13:=k2.cell 13;simp only [List.getElem?_cons_zero,List.getElem?_cons_succ] at y0 y1 y2 y3 y4 y5 y6 y7 y8 y9 y10 y11 y12 y13)
            | (go_at_call 187;refine (HQ.out w2 hB2).mono ?_;rintro e w3 ⟨rfl,hb3⟩;have hB3:=hB2.trans (hb3.mono hB2.size);have k3:=k2.below hb3 k2.lt;have z0:=k3.cell 0;have z1:=k3.cell 1;have z2:=k3.cell 2;have z3:=k3.cell 3;have z4:=k3.cell 4;have z5:=k3.cell 5;have z6:=k3.cell 6;have z7:=k3.cell 7;have z8:=k3.cell 8;have z9:=k3.cell 9;have z10:=k3.cell 10;have z11:=k3.cell 11;have z12:=k3.cell 12;have z13:=k3.cell 13;simp only [List.getElem?_cons_zero,List.getElem?_cons_succ] at z0 z1 z2 z3 z4 z5 z6 z7 z8 z9 z10 z11 z12 z13)
            | (go_at_call 188;refine (HT.out w3 hB3).mono ?_;rintro e w4 ⟨rfl,hb4⟩;have hB4:=hB3.trans (hb4.mono hB3.size);have k4:=k3.below hb4 k3.lt;have u0:=k4.cell 0;have u1:=k4.cell 1;have u2:=k4.cell 2;have u3:=k4.cell 3;have u4:=k4.cell 4;have u5:=k4.cell 5;have u6:=k4.cell 6;have u7:=k4.cell 7;have u8:=k4.cell 8;have u9:=k4.cell 9;have u10:=k4.cell 10;have u11:=k4.cell 11;have u12:=k4.cell 12;have u13:=k4.cell 13;simp only [List.getElem?_cons_zero,List.getElem?_cons_succ] at u0 u1 u2 u3 u4 u5 u6 u7 u8 u9 u10 u11 u12 u13))
        go_ret
        exact ⟨ret_bool HX.out.symm,hB4⟩
      · rw [Bool.true_and] at HX
        cases O0
        · rw [Bool.false_and] at HX
          go_enter Tryz.func136,Tryz.ntmps136
          go_wp2_with (first
              | (go_at_call 186;refine HH1.out.mono ?_;rintro e w2 ⟨rfl,hb2⟩;have hB2:=HB1.out.trans (hb2.mono HB1.out.size);have k2:=K1.out.below hb2 K1.out.lt;have y0:=k2.cell 0;have y1:=k2.cell 1;have y2:=k2.cell 2;have y3:=k2.cell 3;have y4:=k2.cell 4;have y5:=k2.cell 5;have y6:=k2.cell 6;have y7:=k2.cell 7;have y8:=k2.cell 8;have y9:=k2.cell 9;have y10:=k2.cell 10;have y11:=k2.cell 11;have y12:=k2.cell 12;have y13:=k2.cell 13;simp only [List.getElem?_cons_zero,List.getElem?_cons_succ] at y0 y1 y2 y3 y4 y5 y6 y7 y8 y9 y10 y11 y12 y13)
              | (go_at_call 187;refine (HQ.out w2 hB2).mono ?_;rintro e w3 ⟨rfl,hb3⟩;have hB3:=hB2.trans (hb3.mono hB2.size);have k3:=k2.below hb3 k2.lt;have z0:=k3.cell 0;have z1:=k3.cell 1;have z2:=k3.cell 2;have z3:=k3.cell 3;have z4:=k3.cell 4;have z5:=k3.cell 5;have z6:=k3.cell 6;have z7:=k3.cell 7;have z8:=k3.cell 8;have z9:=k3.cell 9;have z10:=k3.cell 10;have z11:=k3.cell 11;have z12:=k3.cell 12;have z13:=k3.cell 13;simp only [List.getElem?_cons_zero,List.getElem?_cons_succ] at z0 z1 z2 z3 z4 z5 z6 z7 z8 z9 z10 z11 z12 z13)
              | (go_at_call 188;refine (HT.out w3 hB3).mono ?_;rintro e w4 ⟨rfl,hb4⟩;have hB4:=hB3.trans (hb4.mono hB3.size);have k4:=k3.below hb4 k3.lt;have u0:=k4.cell 0;have u1:=k4.cell 1;have u2:=k4.cell 2;have u3:=k4.cell 3;have u4:=k4.cell 4;have u5:=k4.cell 5;have u6:=k4.cell 6;have u7:=k4.cell 7;have u8:=k4.cell 8;have u9:=k4.cell 9;have u10:=k4.cell 10;have u11:=k4.cell 11;have u12:=k4.cell 12;have u13:=k4.cell 13;simp only [List.getElem?_cons_zero,List.getElem?_cons_succ] at u0 u1 u2 u3 u4 u5 u6 u7 u8 u9 u10 u11 u12 u13)
              | (go_at_call 189;refine (HO.out w4 hB4).mono ?_;rintro e w5 ⟨rfl,hb5⟩;have hB5:=hB4.trans (hb5.mono hB4.size);have k5:=k4.below hb5 k4.lt;have s0:=k5.cell 0;have s1:=k5.cell 1;have s2:=k5.cell 2;have s3:=k5.cell 3;have s4:=k5.cell 4;have s5:=k5.cell 5;have s6:=k5.cell 6;have s7:=k5.cell 7;have s8:=k5.cell 8;have s9:=k5.cell 9;have s10:=k5.cell 10;have s11:=k5.cell 11;have s12:=k5.cell 12;have s13:=k5.cell 13;simp only [List.getElem?_cons_zero,List.getElem?_cons_succ] at s0 s1 s2 s3 s4 s5 s6 s7 s8 s9 s10 s11 s12 s13))
          go_ret
          exact ⟨ret_bool HX.out.symm,hB5⟩
        · rw [Bool.true_and] at HX
          go_enter Tryz.func136,Tryz.ntmps136
          go_wp2_with (first
              | (go_at_call 186;refine HH1.out.mono ?_;rintro e w2 ⟨rfl,hb2⟩;have hB2:=HB1.out.trans (hb2.mono HB1.out.size);have k2:=K1.out.below hb2 K1.out.lt;have y0:=k2.cell 0;have y1:=k2.cell 1;have y2:=k2.cell 2;have y3:=k2.cell 3;have y4:=k2.cell 4;have y5:=k2.cell 5;have y6:=k2.cell 6;have y7:=k2.cell 7;have y8:=k2.cell 8;have y9:=k2.cell 9;have y10:=k2.cell 10;have y11:=k2.cell 11;have y12:=k2.cell 12;have y13:=k2.cell 13;simp only [List.getElem?_cons_zero,List.getElem?_cons_succ] at y0 y1 y2 y3 y4 y5 y6 y7 y8 y9 y10 y11 y12 y13)
              | (go_at_call 187;refine (HQ.out w2 hB2).mono ?_;rintro e w3 ⟨rfl,hb3⟩;have hB3:=hB2.trans (hb3.mono hB2.size);have k3:=k2.below hb3 k2.lt;have z0:=k3.cell 0;have z1:=k3.cell 1;have z2:=k3.cell 2;have z3:=k3.cell 3;have z4:=k3.cell 4;have z5:=k3.cell 5;have z6:=k3.cell 6;have z7:=k3.cell 7;have z8:=k3.cell 8;have z9:=k3.cell 9;have z10:=k3.cell 10;have z11:=k3.cell 11;have z12:=k3.cell 12;have z13:=k3.cell 13;simp only [List.getElem?_cons_zero,List.getElem?_cons_succ] at z0 z1 z2 z3 z4 z5 z6 z7 z8 z9 z10 z11 z12 z13)
              | (go_at_call 188;refine (HT.out w3 hB3).mono ?_;rintro e w4 ⟨rfl,hb4⟩;have hB4:=hB3.trans (hb4.mono hB3.size);have k4:=k3.below hb4 k3.lt;have u0:=k4.cell 0;have u1:=k4.cell 1;have u2:=k4.cell 2;have u3:=k4.cell 3;have u4:=k4.cell 4;have u5:=k4.cell 5;have u6:=k4.cell 6;have u7:=k4.cell 7;have u8:=k4.cell 8;have u9:=k4.cell 9;have u10:=k4.cell 10;have u11:=k4.cell 11;have u12:=k4.cell 12;have u13:=k4.cell 13;simp only [List.getElem?_cons_zero,List.getElem?_cons_succ] at u0 u1 u2 u3 u4 u5 u6 u7 u8 u9 u10 u11 u12 u13)
              | (go_at_call 189;refine (HO.out w4 hB4).mono ?_;rintro e w5 ⟨rfl,hb5⟩;have hB5:=hB4.trans (hb5.mono hB4.size);have k5:=k4.below hb5 k4.lt;have s0:=k5.cell 0;have s1:=k5.cell 1;have s2:=k5.cell 2;have s3:=k5.cell 3;have s4:=k5.cell 4;have s5:=k5.cell 5;have s6:=k5.cell 6;have s7:=k5.cell 7;have s8:=k5.cell 8;have s9:=k5.cell 9;have s10:=k5.cell 10;have s11:=k5.cell 11;have s12:=k5.cell 12;have s13:=k5.cell 13;simp only [List.getElem?_cons_zero,List.getElem?_cons_succ] at s0 s1 s2 s3 s4 s5 s6 s7 s8 s9 s10 s11 s12 s13)
              | (go_at_call 190;refine (HE.out w5 hB5).mono ?_;rintro e w6 ⟨rfl,hb6⟩;have hB6:=hB5.trans (hb6.mono hB5.size)))
          go_ret
          exact ⟨ret_bool HX.out.symm,hB6⟩
end Go.Proofs.YtohachldbpejpaaGreatDoor
