/- The names of the book, in order. -/
import Derived.Maps.OwnSet
import Derived.StringKeys
import Derived.Sort.KeysCollected
import Derived.Test.YthehfkafcdociaaGreatDoorZyLaid
set_option maxHeartbeats 1000000
namespace Go.Proofs.YthehfkafcdociaaGreatDoor
open Go.RowKit Go.Maps
set_option linter.unusedVariables false
abbrev RV (v:Value):Option (DataW Value × List MemPlace):=some (.held v,[])
def keyB (s:ByteArray):Lit:=.string s.data.toList
def ent (q:Ac × Value):Lit × DataW Value:=(keyB q.1.1,.held (acV q.1 q.2))
def bookD (Z:List (Ac × Value)):DataW Value:=.map (Z.map ent)
theorem bytesBefore_eq:∀ x y:List UInt8,bytesBefore x y=Op.bytesLess x y
  | [],[]=>rfl
  | [],_ :: _=>rfl
  | _ :: _,[]=>rfl
  | a :: x,b :: y=>by unfold bytesBefore Op.bytesLess;rw [bytesBefore_eq x y]
theorem key_before (s t:ByteArray):(keyB s).before (keyB t)=Op.bytesLess s.toList t.toList:=by
  show bytesBefore s.data.toList t.data.toList=_
  rw [bytesBefore_eq,ByteArray.toList_eq,ByteArray.toList_eq]
theorem key_same {s t:ByteArray} (h:s=t):(keyB s).sameKey (keyB t)=true:=by subst h;simp [keyB,Lit.sameKey]
theorem key_not {s t:ByteArray} (h:s ≠ t):(keyB s).sameKey (keyB t)=false:=by
  simp only [keyB,Lit.sameKey,beq_eq_false_iff_ne]
  intro e
  exact h (ByteArray.ext (Array.toList_inj.1 e))
theorem filt_all (s:ByteArray) (t:List (Ac × Value)) (h:∀ x ∈ t,x.1.1 ≠ s):(t.map ent).filter (fun p=>!p.1.sameKey (keyB s))=t.map ent:=by
  rw [List.filter_eq_self]
  intro p hp
  obtain ⟨x,hx,rfl⟩:=List.mem_map.1 hp
  show (!(keyB x.1.1).sameKey (keyB s))=true
  rw [key_not (h x hx)]
  rfl
theorem insert_book (q:Ac × Value):∀ Z:List (Ac × Value),Asc Z->DataW.insert (ent q) ((Z.map ent).filter (fun p=>!p.1.sameKey (keyB q.1.1)))=(insZ q Z).map ent
  | [],_=>rfl
  | x :: t, h=>by
    obtain ⟨h1,h2⟩:=List.pairwise_cons.1 h
    by_cases hl:Lt x.1.1 q.1.1
    · have hne:x.1.1 ≠ q.1.1:=fun e=>by rw [e] at hl;exact lt_no _ hl
      rw [insZ_lt hl,List.map_cons,List.filter_cons_of_pos (by show (!(keyB x.1.1).sameKey (keyB q.1.1))=true;rw [key_not hne];rfl),DataW.insert,if_neg,insert_book q t h2]
      · rfl
      · show ¬ (keyB q.1.1).before (keyB x.1.1)=true
        rw [key_before];exact lt_as hl
    · by_cases he:x.1.1=q.1.1
      · have hab:∀ y ∈ t,Lt q.1.1 y.1.1:=fun y hy=>by rw [<- he];exact h1 y hy
        rw [insZ_eq he,List.map_cons,List.filter_cons_of_neg (by show ¬ (!(keyB x.1.1).sameKey (keyB q.1.1))=true;rw [key_same he];simp),filt_all q.1.1 t (fun y hy e=>by have:=hab y hy;rw [e] at this;exact lt_no _ this)]
        cases t with
        | nil=>rfl
        | cons y t =>
          rw [List.map_cons,DataW.insert,if_pos]
          · rfl
          · show (keyB q.1.1).before (keyB y.1.1)=true
            rw [key_before];exact hab y List.mem_cons_self
      · have hlt:=lt_or hl he
        have hab:∀ y ∈ x :: t,y.1.1 ≠ q.1.1:=fun y hy e=>by
          rcases List.mem_cons.1 hy with rfl | hy
          · exact he e
          · have:=lt_tr hlt (h1 y hy);rw [e] at this;exact lt_no _ this
        rw [insZ_gt hlt,filt_all q.1.1 _ hab,List.map_cons,DataW.insert,if_pos]
        · rfl
        · show (keyB q.1.1).before (keyB x.1.1)=true
          rw [key_before];exact hlt
theorem put_book (Z:List (Ac × Value)) (ha:Asc Z) (q:Ac × Value):(bookD Z).put (keyB q.1.1) (.held (acV q.1 q.2))=bookD (insZ q Z):=by
  show DataW.map _=DataW.map _
  exact congrArg _ (insert_book q Z ha)
theorem at_book (s:ByteArray) (z:DataW Value):∀ Z:List (Ac × Value),(bookD Z).atKey (keyB s) z=match getZ s Z with
    | some q=>.held (acV q.1 q.2)
    | none=>z
  | []=>rfl
  | x :: t=>by
    have ih:=at_book s z t
    unfold bookD DataW.atKey at ih ⊢
    unfold getZ
    simp only [List.map_cons,List.find?_cons]
    by_cases he:x.1.1=s
    · rw [if_pos he,show (ent x).1.sameKey (keyB s)=true from key_same he]
      rfl
    · rw [if_neg he,show (ent x).1.sameKey (keyB s)=false from key_not he]
      exact ih
theorem filt_insert (k:Lit) (d:DataW Value) (hk:k.sameKey k=true):∀ es:List (Lit × DataW Value),(DataW.insert (k,d) es).filter (fun p=>!p.1.sameKey k)=es.filter (fun p=>!p.1.sameKey k)
  | []=>by simp [DataW.insert,hk]
  | y :: r=>by
    unfold DataW.insert
    split
    · rw [List.filter_cons_of_neg (by simp [hk])]
    · rw [List.filter_cons,List.filter_cons,filt_insert k d hk r]
theorem del_put (Z:List (Ac × Value)) (s:ByteArray) (d:DataW Value) (h:getZ s Z=none):((bookD Z).put (keyB s) d).del (keyB s)=bookD Z:=by
  show DataW.map ((DataW.insert (keyB s,d) ((Z.map ent).filter (fun p=>!p.1.sameKey (keyB s)))).filter (fun p=>!p.1.sameKey (keyB s)))=DataW.map (Z.map ent)
  rw [filt_insert _ _ (key_same rfl),filt_all s Z (getZ_none h),filt_all s Z (getZ_none h)]
theorem size_book (Z:List (Ac × Value)):Maps.size (bookD Z)=Z.length:=by simp [bookD,Maps.size]
theorem keys_book (Z:List (Ac × Value)):strKeys (bookD Z)=Z.map (fun q=>q.1.1.data.toList):=by
  simp only [bookD,strKeys,List.map_map]
  rfl
theorem sorted_book (Z:List (Ac × Value)) (ha:Asc Z) {ss:List (List UInt8)} (h:ss.Perm (strKeys (bookD Z))):ss.mergeSort (fun x y=>decide (x<=y))=Z.map (fun q=>q.1.1.data.toList):=by
  rw [show ss.mergeSort (fun x y=>decide (x<=y))=(strKeys (bookD Z)).mergeSort leB from mergeSort_of_perm h,keys_book]
  refine List.mergeSort_of_pairwise ?_
  rw [List.pairwise_map]
  refine List.Pairwise.imp ?_ ha
  intro a b hab
  rw [lt_iff,ByteArray.toList_eq,ByteArray.toList_eq] at hab
  simp only [leB,decide_eq_true_eq]
  exact List.le_of_lt hab
theorem get_at:∀ {Z:List (Ac × Value)},Asc Z->∀ k (h:k < Z.length),getZ Z[k].1.1 Z=some Z[k]
  | [],_,k,h=>by simp at h
  | x :: t,ha,0,h=>by simp [getZ]
  | x :: t,ha,k+1,h=>by
    obtain ⟨h1,h2⟩:=List.pairwise_cons.1 ha
    have hk:k < t.length:=by simpa using h
    have hlt:=h1 t[k] (List.getElem_mem hk)
    simp only [List.getElem_cons_succ]
    unfold getZ
    rw [if_neg (fun e=>by rw [e] at hlt;exact lt_no _ hlt)]
    exact get_at h2 k hk
theorem key_law:Keyed Tryz.prog 9:=string_keyed Tryz.underlying9
theorem zeroAc (w:World):(zeroValue 122).run Tryz.prog w=.ok (acV (ByteArray.empty,0,0,0,[]) (.slice none 0 0)) w:=by kernel_rfl
theorem key_of (s:ByteArray) (h:s.size<=maxLen):keyOf Tryz.prog 9 (.string s)=some (keyB s):=Go.WideMaps.keyOf_string_mk Tryz.underlying9 h
def lookB (s:ByteArray) (Z:List (Ac × Value)):Value:=match getZ s Z with
  | some q=>acV q.1 q.2
  | none=>acV (ByteArray.empty,0,0,0,[]) (.slice none 0 0)
theorem run_look (c:Bool) {w:World} {b n:Nat} {Z:List (Ac × Value)} (hown:w.ownsMap Tryz.prog 9 RV b n (bookD Z)) (s:ByteArray) (hs:s.size<=maxLen) :
    (Instr.lookup 272 (.map (some b)) (.string s) c).run Tryz.prog w=.ok (if c then .tuple #[lookB s Z,.bool (getZ s Z).isSome] else lookB s Z) w:=by
  obtain ⟨es,clock,hb,F,hsz,hD⟩:=hown
  have hat:=fun z=>at_book s z Z
  rw [hD] at hat
  rcases Maps.fit_look (R:=RV) c key_law Tryz.underlying272 (zeroAc w) hb F (key_of s hs) with ⟨hrun,_,h⟩ | ⟨e0,y,_,_,hrun,hRv,h,_⟩
  · cases hg:getZ s Z with
    | none=>rw [hrun];simp [lookB,hg]
    | some q =>
      have h1:=hat (.held (.bool true))
      have h2:=hat (.held (.bool false))
      rw [h,hg] at h1 h2
      simp at h1 h2
      rw [<- h1] at h2
      simp at h2
  · have h1:=hat (.held (.bool true))
    have h2:=hat (.held (.bool false))
    rw [h] at h1 h2
    cases hg:getZ s Z with
    | none =>
      rw [hg] at h1 h2
      simp only at h1 h2
      rw [h1] at h2
      simp at h2
    | some q =>
      rw [hg] at h1
      simp only at h1
      have hv:y=(.held e0.val,[]):=by simpa [RV] using hRv.symm
      rw [hv] at h1
      simp at h1
      rw [hrun,h1]
      simp [lookB,hg]
theorem step_look {ops:Array Oper} {rest:List Oper} {o:Oper} {a:Act} {Q:Exit->Act->World->Prop} (w:World) (hg:o.guard=none) (m x:Operand) (c:Bool) (hop:o.op=Op.lookup 272 m x c)
    (b n:Nat) (Z:List (Ac × Value)) (s:ByteArray) (hm:a.eval m=.map (some b)) (hx:a.eval x=.string s) (hown:w.ownsMap Tryz.prog 9 RV b n (bookD Z)) (hs:s.size<=maxLen)
    (hK:wpList Tryz.prog ops Q rest (a.put o.dst (if c then .tuple #[lookB s Z,.bool (getZ s Z).isSome] else lookB s Z)) w):wpList Tryz.prog ops Q (o :: rest) a w:=by
  refine wpList_plain hg fun K' hK'=>?_
  have hrun:=run_look c hown s hs
  unfold Oper.wp
  simp [execOp,hop,hm,hx,hrun,Result.andThen]
  exact hK' _ _ (by simpa using hK)
theorem book_below {B:Nat} {w w':World} {b n:Nat} {D:DataW Value} (h:w.ownsMap Tryz.prog 9 RV b n D) (hb:Below B w w') (hB:b < B):w'.ownsMap Tryz.prog 9 RV b n D:=by
  obtain ⟨es,clock,hm,r⟩:=h
  exact ⟨es,clock,(hb.block b hB).trans hm,r⟩
end Go.Proofs.YthehfkafcdociaaGreatDoor
namespace Go.Proofs.YthehfkafcdociaaGreatDoor
open Go.RowKit Go.Maps Go.Sort Go.Shelf
set_option linter.unusedVariables false
theorem sorts_at (m:Nat):AnyZ.SortsIn Tryz.prog Tryz.sortedL_ren Fence.wide m :=
  ⟨fun blk off cap ss W hH hblk hsz=>callsIn_wide.2 (AnyM.slices_Sort_string Tryz.sortL blk off cap ss W hH hblk hsz),
   fun p cap W=>callsIn_wide.2 (AnyM.slices_Sort_string_none Tryz.sortL p cap W)⟩
theorem keys_any (mb:Option Nat) (W:World):Calls Tryz.prog 163 #[.map mb] W fun e w'=>e=.returned (.func (.func 166) #[] #[.pointer (some ⟨W.heap.size,0,none⟩)])/\w'=W.alloc (.cells #[.map mb] 272) :=
  (callsIn_wide (n:=5)).1 (AnyZ.keys_in Tryz.keysL Fence.wide 5 trivial rfl mb W)
theorem sorted_any {H:Type} (b nn:Nat) (D0:DataW H) (R:Value->Option (DataW H × List MemPlace)) (w:World) (hown:w.ownsMap Tryz.prog 9 R b nn D0) (hmax:Maps.size D0<=maxLen) (hbytes:Maps.size D0 * 16<=140737488355328) :
    Calls Tryz.prog 162 #[.func (.func 166) #[] #[.pointer (some ⟨w.heap.size,0,none⟩)]] (w.alloc (.cells #[.map (some b)] 272)) fun e w'=>∃ (v:Value) (ss:List (List UInt8)),e=.returned v/\ss.Perm (strKeys D0) /\
      w'.ownsRow (w.alloc (.cells #[.map (some b)] 272)).heap.size 9 1 v ss.length ((ss.mergeSort (fun x y=>decide (x<=y))).map encStr)/\(v=.slice none 0 0 ↔ ss=[])/\Below (w.alloc (.cells #[.map (some b)] 272)).heap.size (w.alloc (.cells #[.map (some b)] 272)) w':=by
  have hbl:=hown.lt
  have hseq:SeqGives Fence.wide 2 Tryz.prog 166 #[.pointer (some ⟨w.heap.size,0,none⟩)] encStr (fun ss=>ss.Perm (strKeys D0)) (Maps.size D0) (w.alloc (.cells #[.map (some b)] 272)) :=
    AnyZ.keys_gives (ρ:=Tryz.keysL_ren) { Tryz.keysL with } Fence.wide _ trivial rfl (by omega) w.heap.size b nn D0 _ (by simp) (by simp) (by
      obtain ⟨es,clock,hb,Ft,hs,hD⟩:=hown
      exact ⟨es,clock,(Below.heap_alloc _ _ b hbl).trans hb,Ft,hs,hD⟩)
  exact (callsIn_wide (n:=5)).1 (AnyZ.sorted_in Tryz.sortedL Fence.wide 5 trivial trivial trivial trivial rfl (by omega) (sorts_at _) (enters_of Tryz.func165 (by kernel_rfl) rfl) 166 #[.pointer (some ⟨w.heap.size,0,none⟩)] trivial (enters_of Tryz.func166 (by kernel_rfl) rfl) _ _ hmax hbytes _ hseq)
theorem names_any (b n:Nat) (Z:List (Ac × Value)) (w:World) (hown:w.ownsMap Tryz.prog 9 RV b n (bookD Z)) (ha:Asc Z) (hl:Z.length<=4000000) :
    Calls Tryz.prog 162 #[.func (.func 166) #[] #[.pointer (some ⟨w.heap.size,0,none⟩)]] (w.alloc (.cells #[.map (some b)] 272)) fun e w'=>∃ (v:Value),e=.returned v /\
      w'.ownsRow (w.heap.size+1) 9 1 v Z.length (Z.map (fun q=>Value.string q.1.1))/\Below (w.heap.size+1) (w.alloc (.cells #[.map (some b)] 272)) w':=by
  refine (sorted_any b n (bookD Z) RV w hown (by rw [size_book];unfold maxLen;omega) (by rw [size_book];omega)).mono ?_
  rintro e w' ⟨v,ss,rfl,hp,hrow,-,hb⟩
  have hlen:ss.length=Z.length:=by rw [hp.length_eq,keys_book];simp
  rw [sorted_book Z ha hp,hlen,List.map_map] at hrow
  rw [World.size_alloc] at hrow hb
  refine ⟨v,rfl,?_,hb⟩
  have e:(Z.map (encStr ∘ fun q=>q.1.1.data.toList))=Z.map (fun q=>Value.string q.1.1):=by
    apply List.map_congr_left
    intro q _
    simp [encStr]
  rw [e] at hrow
  exact hrow
end Go.Proofs.YthehfkafcdociaaGreatDoor
