/- What is a name. -/
import Derived.Test.YtohachldbpejpaaGreatDoorZoAcApp
set_option maxRecDepth 20000
set_option maxHeartbeats 1000000
namespace Go.Proofs.YtohachldbpejpaaGreatDoor
open Go.RowKit
set_option linter.unusedVariables false
theorem step_appL {ops:Array Oper} {o:Oper} {a:Act} {w:World} {K:Act->World->Prop} {Q:Exit->Act->World->Prop} {E:Prop} (hgd:o.guard=none) (s x:Operand)
    (ho:o.op=.call { callee:=.builtin .append,args:=#[s,x],argTypes:=#[103,103] })
    (base:Nat) (v:Value) (B:Nat) (l:List (Int × Int)) (p:Int × Int) (hs:a.eval s=v) (hx:a.eval x=.slice (some ⟨B,0,none⟩) 1 1) (hown:OwnL base w v l) (hblk:Blk w B 107 (lvC p))
    (hlen:l.length<=100000000) (hbase:base<=w.heap.size)
    (h:∀ v' w',OwnL base w' v' (l ++ [p])->w.grownBy w' v.ownBlock->K (a.put o.dst v') w'):if Region.wanted o (yielded ops a.tmps)=true then Oper.wp Tryz.prog o a w K Q else E:=by
  have hw:Region.wanted o (yielded ops a.tmps)=true:=by simp [Region.wanted,hgd]
  rw [if_pos hw]
  obtain ⟨i0,hi,hz0,hz1,hz2⟩:=info_parts Tryz.infoLv
  refine wp_append_own w s x 103 ho base 107 i0 (.agg #[.int .i64 0,.int .i64 0]) 2 16 Tryz.underlying103 hi hz0 hz1 hz2 rfl (by decide) v l.length (l.map lvC).flatten hs hown ⟨B,0,none⟩ 1 1 (lvC p) hx rfl ?_ ?_ (by unfold maxLen;omega) (by omega) hbase ?_
  · intro j u hj
    rw [add_flat,Nat.zero_add,hblk.cell j]
    exact hj
  · intro u hu
    simp only [lvC,List.mem_cons,List.not_mem_nil,or_false] at hu
    rcases hu with rfl | rfl <;> rfl
  · intro v' w' ho' hg _
    exact h v' w' (by unfold OwnL;rw [List.length_append,List.map_append,List.flatten_append];simpa using ho') hg
theorem OwnL.notg {base:Nat} {w w':World} {v:Value} {l:List (Int × Int)} {g:Nat} (h:OwnL base w v l) (hg:w.grownBy w' (some g)) (hb:g < base):OwnL base w' v l :=
  h.kept hg (.inr fun e=>by have:=h.ge g e;omega)
theorem Blk.notg {w w':World} {B g:Nat} {t:TypeId} {cs:List Value} (h:Blk w B t cs) (hg:w.grownBy w' (some g)) (hne:B ≠ g):Blk w' B t cs :=
  (hg.block B h.lt (fun e=>hne (by injection e))).trans h
theorem Blk.setD {w:World} {B:Nat} {t:TypeId} {cs:List Value} (h:Blk w B t cs) (j:Nat) (u:Value) (hj:j < cs.length):Blk (w.setCell ⟨B,j,none⟩ u) B t (cs.set j u):=by
  have e:=heap_setCell_same w B j cs.toArray t u h
  unfold Blk
  rw [e]
  simp
theorem Blk.setOther {w:World} {B b:Nat} {t:TypeId} {cs:List Value} (h:Blk w B t cs) (j:Nat) (u:Value) (hne:B ≠ b):Blk (w.setCell ⟨b,j,none⟩ u) B t cs :=
  h.notg (grown_set w b j u) hne
theorem Blk.grown {w w':World} {B:Nat} {t:TypeId} {cs:List Value} {row:Option Nat} (h:Blk w B t cs) (hg:w.grownBy w' row) (hne:row ≠ some B):Blk w' B t cs:=(hg.block B h.lt (fun e=>hne e.symm)).trans h
theorem Blk.allocD {w:World} {B:Nat} {t:TypeId} {cs:List Value} (h:Blk w B t cs) (o:Obj):Blk (w.alloc o) B t cs:=h.below ((Below.refl _ w).alloc (Nat.le_refl _) o) h.lt
theorem Blk.drew {w:World} {B:Nat} {t:TypeId} {cs:List Value} (h:Blk w B t cs):Blk w.drew B t cs:=h
theorem OwnL.shapeN {base:Nat} {w:World} {v:Value} {l:List (Int × Int)} (h:OwnL base w v l) (n:Nat) (hn:l.length=n):∃ a c,v=.slice a n c:=by
  obtain ⟨a,c,e⟩:=h.rd.shape
  exact ⟨a,c,by rw [e,hn]⟩
def atF (s:ByteArray):List Ac->Nat->Int
  | [],_=>-1
  | a :: l,n=>if a.1=s then (n:Int) else atF s l (n+1)
def atA (l:List Ac) (s:ByteArray):Int:=atF s l 0
theorem atF_found (s:ByteArray):∀ (l:List Ac) (n k:Nat) (h:k < l.length),l[k].1=s->(∀ j (hj:j < k),(l[j]'(by omega)).1 ≠ s)->atF s l n=((n+k:Nat):Int)
  | [],n,k,h,_,_=>by simp at h
  | a :: l,n,k,h,he,hn=>by
    cases k with
    | zero=>rw [atF,if_pos (by simpa using he)];simp
    | succ k =>
      have h0:¬ a.1=s:=hn 0 (by omega)
      rw [atF,if_neg h0,atF_found s l (n+1) k (by simpa using h) (by simpa using he) (fun j hj=>by have:=hn (j+1) (by omega);simpa using this)]
      omega
theorem atF_none (s:ByteArray):∀ (l:List Ac) (n:Nat),(∀ j (hj:j < l.length),l[j].1 ≠ s)->atF s l n=-1
  | [],n,_=>rfl
  | a :: l,n,hn=>by
    have h0:¬ a.1=s:=hn 0 (by simp)
    rw [atF,if_neg h0]
    exact atF_none s l (n+1) (fun j hj=>by have:=hn (j+1) (by simpa using hj);simpa using this)
theorem specAcctAt_any (v:Value) (l:List Ac) (s:ByteArray) (w:World) (hr:RdA w v l) (hl:l.length<=4000000) :
    Calls Tryz.prog 155 #[v,.string s] w fun e w'=>e=.returned (.int .i64 (atA l s))/\Below w.heap.size w w':=by
  rcases hr with ⟨a,cap,rfl,rfl,-⟩ | ⟨b,off,cap,h0,rfl,h1,h2,h3,h4⟩
  · go_enter Tryz.func155,Tryz.ntmps155
    go_wp2
    refine wp_loop_rounds 1 ?_
    rw [rounds_succ]
    go_wp2
    go_ret
    exact ⟨rfl,Below.refl _ _⟩
  · have H4 := hide h4
    clear h4
    go_enter Tryz.func155,Tryz.ntmps155
    go_wp2
    go_loopw [5] (fun i wr=>∃ k:Nat,k<=l.length/\i=.int .i64 k/\(∀ j (h:j < l.length),j < k->l[j].1 ≠ s)/\Below w.heap.size w wr) (fun i _=>l.length - (intOf i).toNat)
    case atStart=>exact ⟨0,Nat.zero_le _,rfl,fun j _ hj=>by omega,Below.refl _ _⟩
    case round =>
      obtain ⟨k,hk,rfl,hno,hb⟩:=hrel
      have Hno:=hide hno
      clear hno
      by_cases hlt:k < l.length
      · obtain ⟨lv,hat,hrl⟩:=H4.out k hlt
        have hc:=(hat.below hb h3).c0
        have hli:(k:Int) < (l.length:Int):=by omega
        clear hat hrl
        by_cases he:l[k].1=s
        · have Hr:Hid (atA l s=(k:Int)):=hide (by unfold atA;rw [atF_found s l 0 k hlt he (fun j hj=>Hno.out j (by omega) hj)];omega)
          rw [he] at hc
          clear he
          go_wp2
          go_ret
          exact ⟨ret_int Hr.out.symm,hb⟩
        · have Hn2:Hid (∀ j (h:j < l.length),j < k+1->l[j].1 ≠ s):=hide (fun j h hj=>by
            by_cases e:j=k
            · subst e;exact he
            · exact Hno.out j h (by omega))
          have hq:=bytes_ne he
          clear he Hno
          generalize l[k].1=t at hc hq
          go_wp2
          go_roundw
          case rel=>exact ⟨k+1,by omega,by go_num,Hn2.out,hb⟩
          case measure=>simp [intOf];omega
      · have Hr:Hid (atA l s=-1):=hide (by unfold atA;exact atF_none s l 0 (fun j hj=>Hno.out j hj (by omega)))
        go_wp2
        go_ret
        exact ⟨ret_int Hr.out.symm,hb⟩
def ofA (a:Ac):Int:=(a.2.2.2.2).foldl (fun s p=>wrap64 (s+p.1)) (wrap64 (a.2.1+a.2.2.2.1))
def wealthA (l:List Ac):Int:=l.foldl (fun s a=>wrap64 (s+ofA a)) 0
theorem fold_snoc {α β:Type} (f:β->α->β) (z:β) (l:List α) (k:Nat) (h:k < l.length):(l.take (k+1)).foldl f z=f ((l.take k).foldl f z) l[k]:=by
  rw [List.take_succ_eq_append_getElem h,List.foldl_append];rfl
theorem specOf_any (a:Ac) (lv:Value) (w:World) (hr:RdL w lv a.2.2.2.2) (hl:a.2.2.2.2.length<=4000000) :
    Calls Tryz.prog 235 #[acV a lv] w fun e w'=>e=.returned (.int .i64 (ofA a))/\Below w.heap.size w w':=by
  obtain ⟨nm,fr,no,st,ls⟩:=a
  have HB:=hide ((Below.refl _ w).alloc (Nat.le_refl _) (.cells #[.string nm,.int .i64 fr,.int .i64 no,.int .i64 st,lv] 105))
  have hk:=Blk.new w 105 [.string nm,.int .i64 fr,.int .i64 no,.int .i64 st,lv]
  have Hr:=hide (hr.below HB.out (Nat.le_refl _))
  obtain ⟨av,cv,rfl⟩:=hr.shape
  clear hr
  simp only [acV] at *
  obtain ⟨w0,hw0⟩:∃ w0,w.alloc (.cells #[.string nm,.int .i64 fr,.int .i64 no,.int .i64 st,.slice av ls.length cv] 105)=w0:=⟨_,rfl⟩
  have hk':Blk w0 w.heap.size 105 [.string nm,.int .i64 fr,.int .i64 no,.int .i64 st,.slice av ls.length cv]:=by rw [<- hw0];exact hk
  have HB':Hid (Below w.heap.size w w0):=hide (by rw [<- hw0];exact HB.out)
  have Hr':Hid (RdL w0 (.slice av ls.length cv) ls):=hide (by rw [<- hw0];exact Hr.out)
  have hlt0:=hk'.lt
  have k1:=hk'.cell 1
  have k3:=hk'.cell 3
  simp only [List.getElem?_cons_zero,List.getElem?_cons_succ] at k1 k3
  clear hk HB Hr
  go_enter Tryz.func235,Tryz.ntmps235
  go_wp2
  clear k1 k3
  go_loopw [3,4] (fun nv iv wr=>∃ k:Nat,k<=ls.length/\iv=.int .i64 k/\nv=.int .i64 ((ls.take k).foldl (fun s p=>wrap64 (s+p.1)) (wrap64 (fr+st)))/\Below w0.heap.size w0 wr) (fun _ iv _=>ls.length - (intOf iv).toNat)
  case atStart=>exact ⟨0,Nat.zero_le _,rfl,rfl,Below.refl _ _⟩
  case round =>
    obtain ⟨k,hkl,rfl,rfl,hb⟩:=hrel
    have hc:=(hk'.below hb hlt0).cell 4
    simp only [List.getElem?_cons_zero,List.getElem?_cons_succ] at hc
    by_cases hlt:k < ls.length
    · have hrr:=Hr'.out
      rcases hrr with ⟨_,_,_,e,_⟩ | ⟨b,off,cap,h0,hv,h1,h2,h3,h4⟩
      · subst e;simp at hlt
      injection hv with ha _ hcap
      subst ha hcap
      have hc1:=(hb.cell (p:=⟨b,off+k * 2,none⟩) h3).trans (h4 k hlt).1
      have hli:(k:Int) < (ls.length:Int):=by omega
      have Hf:=hide (fold_snoc (fun s (p:Int × Int)=>wrap64 (s+p.1)) (wrap64 (fr+st)) ls k hlt)
      clear h4
      generalize ls[k]=p at hc1 Hf
      obtain ⟨x,y⟩:=p
      simp only at hc1 Hf
      generalize (ls.take k).foldl (fun s (p:Int × Int)=>wrap64 (s+p.1)) (wrap64 (fr+st))=acc at Hf
      go_wp2
      go_roundw
      case rel=>exact ⟨k+1,by omega,by go_num,by rw [Hf.out],hb⟩
      case measure=>simp [intOf];omega
    · have Hf:Hid (ofA (nm,fr,no,st,ls)=(ls.take k).foldl (fun s p=>wrap64 (s+p.1)) (wrap64 (fr+st))):=hide (by unfold ofA;rw [List.take_of_length_le (by omega)])
      generalize (ls.take k).foldl (fun s (p:Int × Int)=>wrap64 (s+p.1)) (wrap64 (fr+st))=acc at Hf
      go_wp2
      go_ret
      exact ⟨ret_int Hf.out.symm,HB'.out.trans (hb.mono HB'.out.size)⟩
theorem specWealth_any (v:Value) (l:List Ac) (w:World) (hr:RdA w v l) (hl:l.length<=4000000) (hall:∀ a ∈ l,a.2.2.2.2.length<=4000000) :
    Calls Tryz.prog 224 #[v] w fun e w'=>e=.returned (.int .i64 (wealthA l))/\Below w.heap.size w w':=by
  rcases hr with ⟨a,cap,rfl,rfl,-⟩ | ⟨b,off,cap,h0,rfl,h1,h2,h3,h4⟩
  · go_enter Tryz.func224,Tryz.ntmps224
    go_wp2
    refine wp_loop_rounds 1 ?_
    rw [rounds_succ]
    go_wp2
    go_ret
    exact ⟨rfl,Below.refl _ _⟩
  · have H4:=hide h4
    clear h4
    go_enter Tryz.func224,Tryz.ntmps224
    go_wp2
    go_loopw [3,4] (fun nv iv wr=>∃ k:Nat,k<=l.length/\iv=.int .i64 k/\nv=.int .i64 ((l.take k).foldl (fun s a=>wrap64 (s+ofA a)) 0)/\Below w.heap.size w wr) (fun _ iv _=>l.length - (intOf iv).toNat)
    case atStart=>exact ⟨0,Nat.zero_le _,rfl,rfl,Below.refl _ _⟩
    case round =>
      obtain ⟨k,hkl,rfl,rfl,hb⟩:=hrel
      by_cases hlt:k < l.length
      · obtain ⟨lv,hat,hrl⟩:=H4.out k hlt
        obtain ⟨c0,c1,c2,c3,c4⟩:=hat.below hb h3
        have hli:(k:Int) < (l.length:Int):=by omega
        have Hf:=hide (fold_snoc (fun s (a:Ac)=>wrap64 (s+ofA a)) 0 l k hlt)
        have HO:=hide (specOf_any l[k] lv wr (hrl.below hb (Nat.le_refl _)) (hall l[k] (List.getElem_mem _)))
        have hshape:=hrl.shape
        clear hat hrl hall
        generalize (l.take k).foldl (fun s (a:Ac)=>wrap64 (s+ofA a)) 0=acc at Hf
        generalize l[k]=ak at c0 c1 c2 c3 Hf HO hshape
        generalize ofA ak=oa at Hf HO
        obtain ⟨nm,fr,no,st,ls⟩:=ak
        obtain ⟨av,cv,rfl⟩:=hshape
        simp only [acV] at c0 c1 c2 c3 HO
        go_wp2_with (go_at_call 235;refine HO.out.mono ?_;rintro e w2 ⟨rfl,hb2⟩)
        go_roundw
        case rel=>exact ⟨k+1,by omega,by go_num,by rw [Hf.out],hb.trans (hb2.mono hb.size)⟩
        case measure=>simp [intOf];omega
      · have Hf:Hid (wealthA l=(l.take k).foldl (fun s a=>wrap64 (s+ofA a)) 0):=hide (by unfold wealthA;rw [List.take_of_length_le (by omega)])
        generalize (l.take k).foldl (fun s (a:Ac)=>wrap64 (s+ofA a)) 0=acc at Hf
        go_wp2
        go_ret
        exact ⟨ret_int Hf.out.symm,hb⟩
def inB (x a b:Int):Bool:=decide (a<=x/\x<=b)
theorem l1In_any (x a b:Int) (w:World) :
    Calls Tryz.prog 181 #[.int .i64 x,.int .i64 a,.int .i64 b] w fun e w'=>e=.returned (.bool (inB x a b))/\w'=w:=by
  by_cases h1:a<=x
  · by_cases h2:x<=b
    · have e:Hid (inB x a b=true):=hide (by simp [inB,h1,h2])
      go_enter Tryz.func181,Tryz.ntmps181
      go_wp2
      go_ret
      rw [e.out];exact ⟨rfl,rfl⟩
    · have e:Hid (inB x a b=false):=hide (by simp [inB,h1,h2])
      go_enter Tryz.func181,Tryz.ntmps181
      go_wp2
      go_ret
      rw [e.out];exact ⟨rfl,rfl⟩
  · have e:Hid (inB x a b=false):=hide (by simp [inB,h1])
    go_enter Tryz.func181,Tryz.ntmps181
    go_wp2
    go_ret
    rw [e.out];exact ⟨rfl,rfl⟩
def nbB (x:Int):Bool:=inB x 97 122 || inB x 48 57
def nmB (s:ByteArray):Bool:=s.data.toList.all (fun c=>nbB (c.toNat:Int)) && inB s.size 1 8
theorem take_snoc (s:ByteArray) (k:Nat) (h:k < s.size):s.data.toList.take (k+1)=s.data.toList.take k ++ [s[k]]:=by
  rw [List.take_succ_eq_append_getElem (by simpa using h)];rfl
theorem all_snoc (s:ByteArray) (k:Nat) (h:k < s.size) (p:UInt8->Bool) (h1:(s.data.toList.take k).all p=true) (h2:p s[k]=true):(s.data.toList.take (k+1)).all p=true:=by
  rw [take_snoc s k h,List.all_append,h1];simp [h2]
theorem all_not (s:ByteArray) (k:Nat) (h:k < s.size) (p:UInt8->Bool) (h2:p s[k]=false):s.data.toList.all p=false:=by
  rw [Bool.eq_false_iff];intro ha
  rw [List.all_eq_true] at ha
  have:=ha s[k] (by simp [ByteArray.getElem_eq_getElem_data])
  rw [h2] at this;cases this
theorem all_whole (s:ByteArray) (p:UInt8->Bool) (h:(s.data.toList.take s.size).all p=true):s.data.toList.all p=true:=by
  rwa [List.take_of_length_le (by simp)] at h
theorem isNameByte_any (x:Int) (w:World) :
    Calls Tryz.prog 204 #[.int .u8 x] w fun e w'=>e=.returned (.bool (nbB x))/\w'=w:=by
  rcases (show (97<=x/\x<=122)\/(122 < x)\/(57 < x/\x < 97)\/(48<=x/\x<=57)\/x < 48 from by omega) with h | h | h | h | h
  all_goals
    have e:Hid (nbB x=decide ((97<=x/\x<=122)\/(48<=x/\x<=57))):=hide (by simp only [nbB,inB,Bool.or_eq_decide];simp)
    go_enter Tryz.func204,Tryz.ntmps204
    go_wp2
    go_ret
    exact ⟨ret_bool (by rw [e.out,Bool.eq_iff_iff];simp only [Bool.or_eq_true,decide_eq_true_eq,Bool.false_eq_true,true_iff,false_iff];omega),rfl⟩
theorem specNameOk_any (s:ByteArray) (w:World) (hs:s.size<=maxLen) :
    Calls Tryz.prog 182 #[.string s] w fun e w'=>e=.returned (.bool (nmB s))/\w'=w:=by
  unfold maxLen at hs
  go_enter Tryz.func182,Tryz.ntmps182
  go_wp2
  go_loop [3] (fun i=>∃ k:Nat,k<=s.size/\i=.int .i64 k/\(s.data.toList.take k).all (fun c=>nbB (c.toNat:Int))=true) (fun i=>s.size - (intOf i).toNat)
  case atStart=>exact ⟨0,Nat.zero_le _,rfl,rfl⟩
  case round =>
    obtain ⟨k,hk,rfl,hall⟩:=hrel
    by_cases hlt:k < s.size
    · have Hall:=hide hall
      clear hall
      have hb:(s[k].toNat:Int) < 256:=by have:=s[k].toNat_lt;omega
      cases h1:inB (s[k].toNat:Int) 97 122
      · cases h2:inB (s[k].toNat:Int) 48 57
        · have hf:Hid (nmB s=false):=hide (by unfold nmB;rw [all_not s k hlt _ (by simp only [nbB,h1,h2];rfl)];rfl)
          go_wp2_with (go_at_call 181;refine (l1In_any _ _ _ _).mono ?_;rintro e w' ⟨rfl,rfl⟩)
          go_ret
          rw [hf.out];exact ⟨rfl,rfl⟩
        · have hn:Hid (nbB (s[k].toNat:Int)=true):=hide (by simp [nbB,h1,h2])
          go_wp2_with (go_at_call 181;refine (l1In_any _ _ _ _).mono ?_;rintro e w' ⟨rfl,rfl⟩)
          go_round
          case rel=>exact ⟨k+1,by omega,by go_num,all_snoc s k hlt _ Hall.out hn.out⟩
          case measure=>simp [intOf];omega
      · have hn:Hid (nbB (s[k].toNat:Int)=true):=hide (by simp [nbB,h1])
        go_wp2_with (go_at_call 181;refine (l1In_any _ _ _ _).mono ?_;rintro e w' ⟨rfl,rfl⟩)
        go_round
        case rel=>exact ⟨k+1,by omega,by go_num,all_snoc s k hlt _ Hall.out hn.out⟩
        case measure=>simp [intOf];omega
    · have hf:Hid (nmB s=inB s.size 1 8):=hide (by
        have:k=s.size:=by omega
        subst this
        unfold nmB;rw [all_whole s _ hall];rfl)
      clear hall
      go_wp2_with (go_at_call 181;refine (l1In_any _ _ _ _).mono ?_;rintro e w' ⟨rfl,rfl⟩)
      go_ret
      rw [hf.out];exact ⟨rfl,rfl⟩
theorem implNameOk_any (s:ByteArray) (w:World) (hs:s.size<=maxLen) :
    Calls Tryz.prog 163 #[.string s] w fun e w'=>e=.returned (.bool (nmB s))/\w'=w:=by
  unfold maxLen at hs
  rcases (show s.size < 1\/8 < s.size\/(1<=s.size/\s.size<=8) from by omega) with h | h | h
  · have hf:Hid (nmB s=false):=hide (by unfold nmB inB;rw [decide_eq_false (by omega)];simp)
    go_enter Tryz.func163,Tryz.ntmps163
    go_wp2
    go_ret
    rw [hf.out];exact ⟨rfl,rfl⟩
  · have hf:Hid (nmB s=false):=hide (by unfold nmB inB;rw [decide_eq_false (by omega)];simp)
    have h':¬ s.size < 1:=by omega
    go_enter Tryz.func163,Tryz.ntmps163
    go_wp2
    go_ret
    rw [hf.out];exact ⟨rfl,rfl⟩
  · have hin:inB s.size 1 8=true:=by unfold inB;rw [decide_eq_true (by omega)]
    have Hin:=hide hin
    clear hin
    go_enter Tryz.func163,Tryz.ntmps163
    go_wp2
    go_loop [14] (fun i=>∃ k:Nat,k<=s.size/\i=.int .i64 k/\(s.data.toList.take k).all (fun c=>nbB (c.toNat:Int))=true) (fun i=>s.size - (intOf i).toNat)
    case atStart=>exact ⟨0,Nat.zero_le _,rfl,rfl⟩
    case round =>
      obtain ⟨k,hk,rfl,hall⟩:=hrel
      by_cases hlt:k < s.size
      · have Hall:=hide hall
        clear hall
        cases h1:nbB (s[k].toNat:Int)
        · have hf:Hid (nmB s=false):=hide (by unfold nmB;rw [all_not s k hlt _ h1];rfl)
          go_wp2_with (go_at_call 204;refine (isNameByte_any _ _).mono ?_;rintro e w' ⟨rfl,rfl⟩)
          go_ret
          rw [hf.out];exact ⟨rfl,rfl⟩
        · have hn:=hide h1
          go_wp2_with (go_at_call 204;refine (isNameByte_any _ _).mono ?_;rintro e w' ⟨rfl,rfl⟩)
          go_round
          case rel=>exact ⟨k+1,by omega,by go_num,all_snoc s k hlt _ Hall.out hn.out⟩
          case measure=>simp [intOf];omega
      · have hf:Hid (nmB s=true):=hide (by
          have:k=s.size:=by omega
          subst this
          unfold nmB;rw [all_whole s _ hall,Hin.out];rfl)
        clear hall
        go_wp2
        go_ret
        rw [hf.out];exact ⟨rfl,rfl⟩
end Go.Proofs.YtohachldbpejpaaGreatDoor
