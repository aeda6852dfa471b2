/- The book of accounts that ascend. -/
import Derived.Shelf.SlGeneric
import Derived.Shelf.SlIter.Nil
import Derived.Shelf.SortM.Plain
import Derived.Shelf.SortM.SortNone
import Derived.Ground.GgzProg
import Derived.Ground.SlgmProg
import Derived.Test.YtohachldbpejpaaGreatDoorProg
import Derived.Test.YtohachldbpejpaaGreatDoorZbAcWith
import Derived.Maps.OwnSet
import Derived.StringKeys
import Derived.Sort.KeysCollected
set_option maxRecDepth 20000
set_option maxHeartbeats 1000000
namespace Go.Proofs.YtohachldbpejpaaGreatDoor
open Go.Shelf
def Tryz.keysL_ren:Go.Shelf.Ren:=⟨fun | 7=>233 | 10=>241 | n=>n,fun | 23=>283 | 26=>9 | 3=>105 | 28=>305 | 0=>0 | 27=>304 | 33=>229 | 4=>4 | n=>n,fun | n=>n⟩
theorem Tryz.keysL:Go.Proofs.SlLaysZ.n7 Tryz.prog Tryz.keysL_ren:={
  mixed:=by kernel_rfl
  f7:=⟨Tryz.f233.name,by decide,Tryz.func233.trans (congrArg some (by kernel_rfl))⟩
  f10:=⟨Tryz.f241.name,by decide,Tryz.func241.trans (congrArg some (by kernel_rfl))⟩
  t0:=Tryz.underlying0
  a0:=Tryz.isAgg0
  z0:=Tryz.sizeOf0
  v0:=Tryz.zeroValue0
  t4:=Tryz.underlying4
  a4:=Tryz.isAgg4
  z4:=Tryz.sizeOf4
  v4:=Tryz.zeroValue4
  t23:=Tryz.underlying283
  a23:=Tryz.isAgg283
  z23:=Tryz.sizeOf283
  v23:=Tryz.zeroValue283
  t26:=Tryz.underlying9
  a26:=Tryz.isAgg9
  z26:=Tryz.sizeOf9
  v26:=Tryz.zeroValue9
  t27:=Tryz.underlying304
  a27:=Tryz.isAgg304
  z27:=Tryz.sizeOf304
  v27:=Tryz.zeroValue304
  t28:=Tryz.underlying305
  a28:=Tryz.isAgg305
  z28:=Tryz.sizeOf305
  v28:=Tryz.zeroValue305
  t33:=Tryz.underlying229
  a33:=Tryz.isAgg229
  z33:=Tryz.sizeOf229
  v33:=Tryz.zeroValue229 }
def Tryz.sortedL_ren:Go.Shelf.Ren:=⟨fun | 6=>232 | 8=>239 | 9=>240 | 11=>244 | 13=>176 | 12=>245 | 23=>211 | 24=>212 | 14=>246 | 15=>247 | 16=>248 | 17=>249 | 18=>250 | 19=>251 | 20=>252 | 21=>253 | 22=>254 | 25=>255 | 26=>256 | 27=>257 | 28=>258 | 29=>259 | 30=>260 | 31=>261 | n=>n,fun | 26=>9 | 28=>305 | 24=>42 | 0=>0 | 3=>3 | 37=>262 | 48=>255 | 50=>287 | 4=>4 | 40=>315 | 39=>314 | 45=>270 | 5=>5 | 9=>9 | 51=>321 | 55=>325 | 57=>327 | 58=>328 | 33=>229 | n=>n,fun | n=>n⟩
theorem Tryz.sortedL:Go.Proofs.SlLaysZ.n6 Tryz.prog Tryz.sortedL_ren:={
  mixed:=by kernel_rfl
  f6:=⟨Tryz.f232.name,by decide,Tryz.func232.trans (congrArg some (by kernel_rfl))⟩
  f8:=⟨Tryz.f239.name,by decide,Tryz.func239.trans (congrArg some (by kernel_rfl))⟩
  f11:=⟨Tryz.f244.name,by decide,Tryz.func244.trans (congrArg some (by kernel_rfl))⟩
  t0:=Tryz.underlying0
  a0:=Tryz.isAgg0
  z0:=Tryz.sizeOf0
  v0:=Tryz.zeroValue0
  t24:=Tryz.underlying42
  a24:=Tryz.isAgg42
  z24:=Tryz.sizeOf42
  v24:=Tryz.zeroValue42
  t26:=Tryz.underlying9
  a26:=Tryz.isAgg9
  z26:=Tryz.sizeOf9
  v26:=Tryz.zeroValue9
  t28:=Tryz.underlying305
  a28:=Tryz.isAgg305
  z28:=Tryz.sizeOf305
  v28:=Tryz.zeroValue305
  i26:=by kernel_rfl }
def Tryz.sortL_ren:Go.Shelf.Ren:=⟨fun | 6=>240 | 8=>176 | 9=>245 | 19=>211 | 20=>212 | 21=>246 | 22=>247 | 23=>248 | 24=>249 | 25=>250 | 26=>251 | 27=>252 | 28=>253 | 29=>254 | 36=>255 | 31=>256 | 32=>257 | 37=>258 | 38=>259 | 39=>260 | 41=>261 | n=>n,fun | 27=>42 | 29=>9 | 3=>3 | 32=>262 | 26=>42 | 0=>0 | 44=>255 | 46=>287 | 4=>4 | 36=>315 | 35=>314 | 41=>270 | 5=>5 | 9=>9 | 53=>321 | 57=>325 | 63=>327 | 64=>328 | n=>n,fun | n=>n⟩
theorem Tryz.sortL:Go.Proofs.SlLaysM.n6 Tryz.prog Tryz.sortL_ren:={
  mixed:=by kernel_rfl
  f6:=⟨Tryz.f240.name,by decide,Tryz.func240.trans (congrArg some (by kernel_rfl))⟩
  f8:=Tryz.func176.trans (congrArg some (by kernel_rfl))
  f9:=⟨Tryz.f245.name,by decide,Tryz.func245.trans (congrArg some (by kernel_rfl))⟩
  f19:=Tryz.func211.trans (congrArg some (by kernel_rfl))
  f20:=Tryz.func212.trans (congrArg some (by kernel_rfl))
  f21:=⟨Tryz.f246.name,by decide,Tryz.func246.trans (congrArg some (by kernel_rfl))⟩
  f22:=⟨Tryz.f247.name,by decide,Tryz.func247.trans (congrArg some (by kernel_rfl))⟩
  f23:=⟨Tryz.f248.name,by decide,Tryz.func248.trans (congrArg some (by kernel_rfl))⟩
  f24:=⟨Tryz.f249.name,by decide,Tryz.func249.trans (congrArg some (by kernel_rfl))⟩
  f25:=⟨Tryz.f250.name,by decide,Tryz.func250.trans (congrArg some (by kernel_rfl))⟩
  f26:=⟨Tryz.f251.name,by decide,Tryz.func251.trans (congrArg some (by kernel_rfl))⟩
  f27:=⟨Tryz.f252.name,by decide,Tryz.func252.trans (congrArg some (by kernel_rfl))⟩
  f28:=⟨Tryz.f253.name,by decide,Tryz.func253.trans (congrArg some (by kernel_rfl))⟩
  f29:=⟨Tryz.f254.name,by decide,Tryz.func254.trans (congrArg some (by kernel_rfl))⟩
  f31:=Tryz.func256.trans (congrArg some (by kernel_rfl))
  f32:=Tryz.func257.trans (congrArg some (by kernel_rfl))
  f36:=⟨Tryz.f255.name,by decide,Tryz.func255.trans (congrArg some (by kernel_rfl))⟩
  f37:=⟨Tryz.f258.name,by decide,Tryz.func258.trans (congrArg some (by kernel_rfl))⟩
  f38:=⟨Tryz.f259.name,by decide,Tryz.func259.trans (congrArg some (by kernel_rfl))⟩
  f39:=⟨Tryz.f260.name,by decide,Tryz.func260.trans (congrArg some (by kernel_rfl))⟩
  f41:=⟨Tryz.f261.name,by decide,Tryz.func261.trans (congrArg some (by kernel_rfl))⟩
  t0:=Tryz.underlying0
  a0:=Tryz.isAgg0
  z0:=Tryz.sizeOf0
  v0:=Tryz.zeroValue0
  t3:=Tryz.underlying3
  a3:=Tryz.isAgg3
  z3:=Tryz.sizeOf3
  v3:=Tryz.zeroValue3
  t4:=Tryz.underlying4
  a4:=Tryz.isAgg4
  z4:=Tryz.sizeOf4
  v4:=Tryz.zeroValue4
  t5:=Tryz.underlying5
  a5:=Tryz.isAgg5
  z5:=Tryz.sizeOf5
  v5:=Tryz.zeroValue5
  t9:=Tryz.underlying9
  a9:=Tryz.isAgg9
  z9:=Tryz.sizeOf9
  v9:=Tryz.zeroValue9
  t26:=Tryz.underlying42
  a26:=Tryz.isAgg42
  z26:=Tryz.sizeOf42
  v26:=Tryz.zeroValue42
  t27:=Tryz.underlying42
  a27:=Tryz.isAgg42
  z27:=Tryz.sizeOf42
  v27:=Tryz.zeroValue42
  t29:=Tryz.underlying9
  a29:=Tryz.isAgg9
  z29:=Tryz.sizeOf9
  v29:=Tryz.zeroValue9
  t32:=Tryz.underlying262
  a32:=Tryz.isAgg262
  z32:=Tryz.sizeOf262
  v32:=Tryz.zeroValue262
  t35:=Tryz.underlying314
  a35:=Tryz.isAgg314
  z35:=Tryz.sizeOf314
  v35:=Tryz.zeroValue314
  t36:=Tryz.underlying315
  a36:=Tryz.isAgg315
  z36:=Tryz.sizeOf315
  v36:=Tryz.zeroValue315
  t41:=Tryz.underlying270
  a41:=Tryz.isAgg270
  z41:=Tryz.sizeOf270
  v41:=Tryz.zeroValue270
  t44:=Tryz.underlying255
  a44:=Tryz.isAgg255
  z44:=Tryz.sizeOf255
  v44:=Tryz.zeroValue255
  t46:=Tryz.underlying287
  a46:=Tryz.isAgg287
  z46:=Tryz.sizeOf287
  v46:=Tryz.zeroValue287
  t53:=Tryz.underlying321
  a53:=Tryz.isAgg321
  z53:=Tryz.sizeOf321
  v53:=Tryz.zeroValue321
  t57:=Tryz.underlying325
  a57:=Tryz.isAgg325
  z57:=Tryz.sizeOf325
  v57:=Tryz.zeroValue325
  t63:=Tryz.underlying327
  a63:=Tryz.isAgg327
  z63:=Tryz.sizeOf327
  v63:=Tryz.zeroValue327
  t64:=Tryz.underlying328
  a64:=Tryz.isAgg328
  z64:=Tryz.sizeOf328
  v64:=Tryz.zeroValue328 }
end Go.Proofs.YtohachldbpejpaaGreatDoor
namespace Go.Proofs.YtohachldbpejpaaGreatDoor
open Go.RowKit Go.Maps
set_option linter.unusedVariables false
abbrev RV (v:Value):Option (DataW Value × List MemPlace):=some (.held v,[])
def keyB (s:ByteArray):Lit:=.string s.data.toList
def ent (q:Ac × Value):Lit × DataW Value:=(keyB q.1.1,.held (acV q.1 q.2))
def bookD (Z:List (Ac × Value)):DataW Value:=.map (Z.map ent)
theorem bytesBefore_eq:∀ x y:List UInt8,bytesBefore x y=Op.bytesLess x y
  | [],[]=>rfl
  | [],_ :: _=>rfl
  | _ :: _,[]=>rfl
  | a :: x,b :: y=>by unfold bytesBefore Op.bytesLess;rw [bytesBefore_eq x y]
theorem key_before (s t:ByteArray):(keyB s).before (keyB t)=Op.bytesLess s.toList t.toList:=by
  show bytesBefore s.data.toList t.data.toList=_
  rw [bytesBefore_eq,ByteArray.toList_eq,ByteArray.toList_eq]
theorem key_same {s t:ByteArray} (h:s=t):(keyB s).sameKey (keyB t)=true:=by subst h;simp [keyB,Lit.sameKey]
theorem key_not {s t:ByteArray} (h:s ≠ t):(keyB s).sameKey (keyB t)=false:=by
  simp only [keyB,Lit.sameKey,beq_eq_false_iff_ne]
  intro e
  exact h (ByteArray.ext (Array.toList_inj.1 e))
theorem filt_all (s:ByteArray) (t:List (Ac × Value)) (h:∀ x ∈ t,x.1.1 ≠ s):(t.map ent).filter (fun p=>!p.1.sameKey (keyB s))=t.map ent:=by
  rw [List.filter_eq_self]
  intro p hp
  obtain ⟨x,hx,rfl⟩:=List.mem_map.1 hp
  show (!(keyB x.1.1).sameKey (keyB s))=true
  rw [key_not (h x hx)]
  rfl
theorem insert_book (q:Ac × Value):∀ Z:List (Ac × Value),Asc Z->DataW.insert (ent q) ((Z.map ent).filter (fun p=>!p.1.sameKey (keyB q.1.1)))=(insZ q Z).map ent
  | [],_=>rfl
  | x :: t, h=>by
    obtain ⟨h1,h2⟩:=List.pairwise_cons.1 h
    by_cases hl:Lt x.1.1 q.1.1
    · have hne:x.1.1 ≠ q.1.1:=fun e=>by rw [e] at hl;exact lt_no _ hl
      rw [insZ_lt hl,List.map_cons,List.filter_cons_of_pos (by show (!(keyB x.1.1).sameKey (keyB q.1.1))=true;rw [key_not hne];rfl),DataW.insert,if_neg,insert_book q t h2]
      · rfl
      · show ¬ (keyB q.1.1).before (keyB x.1.1)=true
        rw [key_before];exact lt_as hl
    · by_cases he:x.1.1=q.1.1
      · have hab:∀ y ∈ t,Lt q.1.1 y.1.1:=fun y hy=>by rw [<- he];exact h1 y hy
        rw [insZ_eq he,List.map_cons,List.filter_cons_of_neg (by show ¬ (!(keyB x.1.1).sameKey (keyB q.1.1))=true;rw [key_same he];simp),filt_all q.1.1 t (fun y hy e=>by have:=hab y hy;rw [e] at this;exact lt_no _ this)]
        cases t with
        | nil=>rfl
        | cons y t =>
          rw [List.map_cons,DataW.insert,if_pos]
          · rfl
          · show (keyB q.1.1).before (keyB y.1.1)=true
            rw [key_before];exact hab y List.mem_cons_self
      · have hlt:=lt_or hl he
        have hab:∀ y ∈ x :: t,y.1.1 ≠ q.1.1:=fun y hy e=>by
          rcases List.mem_cons.1 hy with rfl | hy
          · exact he e
          · have:=lt_tr hlt (h1 y hy);rw [e] at this;exact lt_no _ this
        rw [insZ_gt hlt,filt_all q.1.1 _ hab,List.map_cons,DataW.insert,if_pos]
        · rfl
        · show (keyB q.1.1).before (keyB x.1.1)=true
          rw [key_before];exact hlt
theorem put_book (Z:List (Ac × Value)) (ha:Asc Z) (q:Ac × Value):(bookD Z).put (keyB q.1.1) (.held (acV q.1 q.2))=bookD (insZ q Z):=by
  show DataW.map _=DataW.map _
  exact congrArg _ (insert_book q Z ha)
theorem at_book (s:ByteArray) (z:DataW Value):∀ Z:List (Ac × Value),(bookD Z).atKey (keyB s) z=match getZ s Z with
    | some q=>.held (acV q.1 q.2)
    | none=>z
  | []=>rfl
  | x :: t=>by
    have ih:=at_book s z t
    unfold bookD DataW.atKey at ih ⊢
    unfold getZ
    simp only [List.map_cons,List.find?_cons]
    by_cases he:x.1.1=s
    · rw [if_pos he,show (ent x).1.sameKey (keyB s)=true from key_same he]
      rfl
    · rw [if_neg he,show (ent x).1.sameKey (keyB s)=false from key_not he]
      exact ih
theorem filt_insert (k:Lit) (d:DataW Value) (hk:k.sameKey k=true):∀ es:List (Lit × DataW Value),(DataW.insert (k,d) es).filter (fun p=>!p.1.sameKey k)=es.filter (fun p=>!p.1.sameKey k)
  | []=>by simp [DataW.insert,hk]
  | y :: r=>by
    unfold DataW.insert
    split
    · rw [List.filter_cons_of_neg (by simp [hk])]
    · rw [List.filter_cons,List.filter_cons,filt_insert k d hk r]
theorem del_put (Z:List (Ac × Value)) (s:ByteArray) (d:DataW Value) (h:getZ s Z=none):((bookD Z).put (keyB s) d).del (keyB s)=bookD Z:=by
  show DataW.map ((DataW.insert (keyB s,d) ((Z.map ent).filter (fun p=>!p.1.sameKey (keyB s)))).filter (fun p=>!p.1.sameKey (keyB s)))=DataW.map (Z.map ent)
  rw [filt_insert _ _ (key_same rfl),filt_all s Z (getZ_none h),filt_all s Z (getZ_none h)]
theorem size_book (Z:List (Ac × Value)):Maps.size (bookD Z)=Z.length:=by simp [bookD,Maps.size]
theorem keys_book (Z:List (Ac × Value)):strKeys (bookD Z)=Z.map (fun q=>q.1.1.data.toList):=by
  simp only [bookD,strKeys,List.map_map]
  rfl
theorem sorted_book (Z:List (Ac × Value)) (ha:Asc Z) {ss:List (List UInt8)} (h:ss.Perm (strKeys (bookD Z))):ss.mergeSort (fun x y=>decide (x<=y))=Z.map (fun q=>q.1.1.data.toList):=by
  rw [show ss.mergeSort (fun x y=>decide (x<=y))=(strKeys (bookD Z)).mergeSort leB from mergeSort_of_perm h,keys_book]
  refine List.mergeSort_of_pairwise ?_
  rw [List.pairwise_map]
  refine List.Pairwise.imp ?_ ha
  intro a b hab
  rw [lt_iff,ByteArray.toList_eq,ByteArray.toList_eq] at hab
  simp only [leB,decide_eq_true_eq]
  exact List.le_of_lt hab
theorem get_at:∀ {Z:List (Ac × Value)},Asc Z->∀ k (h:k < Z.length),getZ Z[k].1.1 Z=some Z[k]
  | [],_,k,h=>by simp at h
  | x :: t,ha,0,h=>by simp [getZ]
  | x :: t,ha,k+1,h=>by
    obtain ⟨h1,h2⟩:=List.pairwise_cons.1 ha
    have hk:k < t.length:=by simpa using h
    have hlt:=h1 t[k] (List.getElem_mem hk)
    simp only [List.getElem_cons_succ]
    unfold getZ
    rw [if_neg (fun e=>by rw [e] at hlt;exact lt_no _ hlt)]
    exact get_at h2 k hk
theorem key_law:Keyed Tryz.prog 9:=string_keyed Tryz.underlying9
theorem zeroAc (w:World):(zeroValue 105).run Tryz.prog w=.ok (acV (ByteArray.empty,0,0,0,[]) (.slice none 0 0)) w:=by kernel_rfl
theorem key_of (s:ByteArray) (h:s.size<=maxLen):keyOf Tryz.prog 9 (.string s)=some (keyB s):=Go.WideMaps.keyOf_string_mk Tryz.underlying9 h
def lookB (s:ByteArray) (Z:List (Ac × Value)):Value:=match getZ s Z with
  | some q=>acV q.1 q.2
  | none=>acV (ByteArray.empty,0,0,0,[]) (.slice none 0 0)
theorem run_look (c:Bool) {w:World} {b n:Nat} {Z:List (Ac × Value)} (hown:w.ownsMap Tryz.prog 9 RV b n (bookD Z)) (s:ByteArray) (hs:s.size<=maxLen) :
    (Instr.lookup 283 (.map (some b)) (.string s) c).run Tryz.prog w=.ok (if c then .tuple #[lookB s Z,.bool (getZ s Z).isSome] else lookB s Z) w:=by
  obtain ⟨es,clock,hb,F,hsz,hD⟩:=hown
  have hat:=fun z=>at_book s z Z
  rw [hD] at hat
  rcases Maps.fit_look (R:=RV) c key_law Tryz.underlying283 (zeroAc w) hb F (key_of s hs) with ⟨hrun,_,h⟩ | ⟨e0,y,_,_,hrun,hRv,h,_⟩
  · cases hg:getZ s Z with
    | none=>rw [hrun];simp [lookB,hg]
    | some q =>
      have h1:=hat (.held (.bool true))
      have h2:=hat (.held (.bool false))
      rw [h,hg] at h1 h2
      simp at h1 h2
      rw [<- h1] at h2
      simp at h2
  · have h1:=hat (.held (.bool true))
    have h2:=hat (.held (.bool false))
    rw [h] at h1 h2
    cases hg:getZ s Z with
    | none =>
      rw [hg] at h1 h2
      simp only at h1 h2
      rw [h1] at h2
      simp at h2
    | some q =>
      rw [hg] at h1
      simp only at h1
      have hv:y=(.held e0.val,[]):=by simpa [RV] using hRv.symm
      rw [hv] at h1
      simp at h1
      rw [hrun,h1]
      simp [lookB,hg]
theorem step_look {ops:Array Oper} {rest:List Oper} {o:Oper} {a:Act} {Q:Exit->Act->World->Prop} (w:World) (hg:o.guard=none) (m x:Operand) (c:Bool) (hop:o.op=Op.lookup 283 m x c)
    (b n:Nat) (Z:List (Ac × Value)) (s:ByteArray) (hm:a.eval m=.map (some b)) (hx:a.eval x=.string s) (hown:w.ownsMap Tryz.prog 9 RV b n (bookD Z)) (hs:s.size<=maxLen)
    (hK:wpList Tryz.prog ops Q rest (a.put o.dst (if c then .tuple #[lookB s Z,.bool (getZ s Z).isSome] else lookB s Z)) w):wpList Tryz.prog ops Q (o :: rest) a w:=by
  refine wpList_plain hg fun K' hK'=>?_
  have hrun:=run_look c hown s hs
  unfold Oper.wp
  simp [execOp,hop,hm,hx,hrun,Result.andThen]
  exact hK' _ _ (by simpa using hK)
theorem book_below {B:Nat} {w w':World} {b n:Nat} {D:DataW Value} (h:w.ownsMap Tryz.prog 9 RV b n D) (hb:Below B w w') (hB:b < B):w'.ownsMap Tryz.prog 9 RV b n D:=by
  obtain ⟨es,clock,hm,r⟩:=h
  exact ⟨es,clock,(hb.block b hB).trans hm,r⟩
end Go.Proofs.YtohachldbpejpaaGreatDoor
namespace Go.Proofs.YtohachldbpejpaaGreatDoor
open Go.RowKit Go.Maps Go.Sort Go.Shelf
set_option linter.unusedVariables false
theorem sorts_at (m:Nat):AnyZ.SortsIn Tryz.prog Tryz.sortedL_ren Fence.wide m :=
  ⟨fun blk off cap ss W hH hblk hsz=>callsIn_wide.2 (AnyM.slices_Sort_string Tryz.sortL blk off cap ss W hH hblk hsz),
   fun p cap W=>callsIn_wide.2 (AnyM.slices_Sort_string_none Tryz.sortL p cap W)⟩
theorem keys_any (mb:Option Nat) (W:World):Calls Tryz.prog 233 #[.map mb] W fun e w'=>e=.returned (.func (.func 241) #[] #[.pointer (some ⟨W.heap.size,0,none⟩)])/\w'=W.alloc (.cells #[.map mb] 283) :=
  (callsIn_wide (n:=5)).1 (AnyZ.keys_in Tryz.keysL Fence.wide 5 trivial rfl mb W)
theorem sorted_any {H:Type} (b nn:Nat) (D0:DataW H) (R:Value->Option (DataW H × List MemPlace)) (w:World) (hown:w.ownsMap Tryz.prog 9 R b nn D0) (hmax:Maps.size D0<=maxLen) (hbytes:Maps.size D0 * 16<=140737488355328) :
    Calls Tryz.prog 232 #[.func (.func 241) #[] #[.pointer (some ⟨w.heap.size,0,none⟩)]] (w.alloc (.cells #[.map (some b)] 283)) fun e w'=>∃ (v:Value) (ss:List (List UInt8)),e=.returned v/\ss.Perm (strKeys D0) /\
      w'.ownsRow (w.alloc (.cells #[.map (some b)] 283)).heap.size 9 1 v ss.length ((ss.mergeSort (fun x y=>decide (x<=y))).map encStr)/\(v=.slice none 0 0 ↔ ss=[])/\Below (w.alloc (.cells #[.map (some b)] 283)).heap.size (w.alloc (.cells #[.map (some b)] 283)) w':=by
  have hbl:=hown.lt
  have hseq:SeqGives Fence.wide 2 Tryz.prog 241 #[.pointer (some ⟨w.heap.size,0,none⟩)] encStr (fun ss=>ss.Perm (strKeys D0)) (Maps.size D0) (w.alloc (.cells #[.map (some b)] 283)) :=
    AnyZ.keys_gives (ρ:=Tryz.keysL_ren) { Tryz.keysL with } Fence.wide _ trivial rfl (by omega) w.heap.size b nn D0 _ (by simp) (by simp) (by
      obtain ⟨es,clock,hb,Ft,hs,hD⟩:=hown
      exact ⟨es,clock,(Below.heap_alloc _ _ b hbl).trans hb,Ft,hs,hD⟩)
  exact (callsIn_wide (n:=5)).1 (AnyZ.sorted_in Tryz.sortedL Fence.wide 5 trivial trivial trivial trivial rfl (by omega) (sorts_at _) (enters_of Tryz.func240 (by kernel_rfl) rfl) 241 #[.pointer (some ⟨w.heap.size,0,none⟩)] trivial (enters_of Tryz.func241 (by kernel_rfl) rfl) _ _ hmax hbytes _ hseq)
theorem names_any (b n:Nat) (Z:List (Ac × Value)) (w:World) (hown:w.ownsMap Tryz.prog 9 RV b n (bookD Z)) (ha:Asc Z) (hl:Z.length<=4000000) :
    Calls Tryz.prog 232 #[.func (.func 241) #[] #[.pointer (some ⟨w.heap.size,0,none⟩)]] (w.alloc (.cells #[.map (some b)] 283)) fun e w'=>∃ (v:Value),e=.returned v /\
      w'.ownsRow (w.heap.size+1) 9 1 v Z.length (Z.map (fun q=>Value.string q.1.1))/\Below (w.heap.size+1) (w.alloc (.cells #[.map (some b)] 283)) w':=by
  refine (sorted_any b n (bookD Z) RV w hown (by rw [size_book];unfold maxLen;omega) (by rw [size_book];omega)).mono ?_
  rintro e w' ⟨v,ss,rfl,hp,hrow,-,hb⟩
  have hlen:ss.length=Z.length:=by rw [hp.length_eq,keys_book];simp
  rw [sorted_book Z ha hp,hlen,List.map_map] at hrow
  rw [World.size_alloc] at hrow hb
  refine ⟨v,rfl,?_,hb⟩
  have e:(Z.map (encStr ∘ fun q=>q.1.1.data.toList))=Z.map (fun q=>Value.string q.1.1):=by
    apply List.map_congr_left
    intro q _
    simp [encStr]
  rw [e] at hrow
  exact hrow
end Go.Proofs.YtohachldbpejpaaGreatDoor
namespace Go.Proofs.YtohachldbpejpaaGreatDoor
open Go.RowKit Go.Maps
set_option linter.unusedVariables false
theorem step_len {ops:Array Oper} {rest:List Oper} {o:Oper} {a:Act} {Q:Exit->Act->World->Prop} (w:World) (hg:o.guard=none) (m:Operand) (hop:o.op=Op.call { callee:=Callee.builtin Builtin.len,args:=#[m],argTypes:=#[283] })
    (b n:Nat) (Z:List (Ac × Value)) (hm:a.eval m=.map (some b)) (hown:w.ownsMap Tryz.prog 9 RV b n (bookD Z))
    (hK:wpList Tryz.prog ops Q rest (a.put o.dst (.int .i64 (Z.length:Int))) w):wpList Tryz.prog ops Q (o :: rest) a w:=by
  refine wpList_len_own w hg m 283 hop 9 105 Tryz.underlying283 RV b n (bookD Z) hm hown ?_
  rw [size_book]
  exact hK
theorem listed_any (b n:Nat) (Z:List (Ac × Value)) (w:World) (hown:w.ownsMap Tryz.prog 9 RV b n (bookD Z)) (ha:Asc Z) (hl:Z.length<=4000000) (hnm:∀ q ∈ Z,q.1.1.size<=maxLen) (hsl:∀ q ∈ Z,∃ a m c,q.2=.slice a m c) :
    Calls Tryz.prog 207 #[.map (some b)] w fun e w'=>∃ g cap,e=.returned (.slice (some ⟨g,0,none⟩) Z.length cap)/\RowA w.heap.size w' (.slice (some ⟨g,0,none⟩) Z.length cap) Z/\Below w.heap.size w w':=by
  obtain ⟨i0,hi,hz0,hz1,hz2⟩:=info_parts Tryz.infoAc
  have Ho:=hide hown
  have hbl:=hown.lt
  clear hown
  go_enter Tryz.func207,Tryz.ntmps207
  go_wp2_with (first
    | (at_len;refine step_len _ rfl _ rfl b n Z rfl Ho.out ?_)
    | (refine wpList_make_own _ rfl _ _ 24 rfl w.heap.size 105 i0 (.agg #[.string { data:=#[] },.int .i64 0,.int .i64 0,.int .i64 0,.slice none 0 0]) 5 Tryz.underlying24 hi hz0 hz1 .i64 .i64 _ Z.length rfl rfl rfl (by rw [hz2];omega) (by unfold maxLen;omega) (Nat.le_refl _) ?_;intro w1 hrow1 hgr1;have hb1:Below w.heap.size w w1:=(Below.refl _ _).grown hgr1 (Nat.le_refl _) (by intro k hk;cases hk);have Ho1:=hide (book_below Ho.out hb1 hbl))
    | (go_at_call 233;refine (keys_any _ _).mono ?_;rintro e w2 ⟨rfl,rfl⟩))
  refine (names_any b n Z w1 Ho1.out ha hl).mono ?_
  rintro e w3 ⟨v,rfl,hrow3,hb3⟩
  have hlt1:w.heap.size < w1.heap.size:=(World.ownsRow.lt hrow1 w.heap.size rfl).2
  have hb13:Below w1.heap.size w1 w3:=((Below.refl _ w1).alloc (Nat.le_refl _) _).trans (hb3.mono (by omega))
  have hB3:Below w.heap.size w w3:=hb1.trans (hb13.mono hb1.size)
  have Hr3:Hid (RowA w.heap.size w3 (.slice (some ⟨w.heap.size,0,none⟩) 0 Z.length) []):=hide (row_below hrow1 hb13 (Nat.le_refl _))
  clear hrow1 hgr1 hb3 Ho1
  have Hrow:=hide hrow3
  rcases hrow3.2 with ⟨rfl,hz⟩ | ⟨gv,cv,cur,rfl,hgv,hgc,h1,h2,h3,h4⟩
  · have e:Z=[]:=List.length_eq_zero_iff.1 hz
    subst e
    clear hrow3
    go_wp2
    refine wp_loop_rounds 1 ?_
    rw [rounds_succ]
    go_wp2
    go_ret
    exact ⟨_,_,rfl,Hr3.out,hB3⟩
  · clear hrow3 hgc h4 h3
    go_wp2
    go_loopw [3,13] (fun ov iv wr=>∃ (k g c:Nat),k<=Z.length/\iv=.int .i64 k/\ov=.slice (some ⟨g,0,none⟩) k c/\RowA w.heap.size wr ov (Z.take k)/\wr.ownsRow (w1.heap.size+1) 9 1 (.slice (some ⟨gv,0,none⟩) Z.length cv) Z.length (Z.map (fun q=>Value.string q.1.1))/\gv ≠ g/\Below w.heap.size w wr) (fun _ iv _=>Z.length - (intOf iv).toNat)
    case atStart=>exact ⟨0,_,_,Nat.zero_le _,rfl,rfl,Hr3.out,Hrow.out,by omega,hB3⟩
    case round =>
      obtain ⟨k,g,c,hk,rfl,rfl,ho,hns,hne,hb⟩:=hrel
      clear hB3 Hr3 Hrow hb13
      have hzl:(Z.take k).length=k:=by simp;omega
      by_cases hlt:k < Z.length
      · have hc:wr.cell? ⟨gv,k,none⟩=some (.string Z[k].1.1):=by
          have:=hns.cellAt k (by omega)
          rw [this]
          simp [hlt]
        have hli:(k:Int) < (Z.length:Int):=by omega
        have hgl:g < wr.heap.size:=ho.lt g rfl
        have hgw:w.heap.size<=g:=ho.ge g rfl
        have hgvl:gv < wr.heap.size:=(World.ownsRow.lt hns gv rfl).2
        have hws:=hb.size
        have HoK:=hide (book_below Ho.out hb hbl)
        have hsz:=hnm Z[k] (List.getElem_mem _)
        have hlook:Hid (lookB Z[k].1.1 Z=acV Z[k].1 Z[k].2):=hide (by unfold lookB;rw [get_at ha k hlt])
        have Hnx:Hid (Z.take (k+1)=Z.take k ++ [Z[k]]):=hide (List.take_succ_eq_append_getElem hlt)
        have hshape:=hsl Z[k] (List.getElem_mem _)
        have Hro:=hide ho
        have Hns:=hide hns
        clear ho hns
        generalize Z[k]=q at hc hsz hlook Hnx hshape
        obtain ⟨⟨nm,fr,no,st,ls⟩,lv⟩:=q
        obtain ⟨a',m',c',hlv⟩:=hshape
        simp only at hlv hc hsz hlook
        subst hlv
        simp only [acV] at hlook
        go_wp2_with (first
          | (at_lookup;refine step_look _ rfl _ _ false rfl b n Z nm rfl rfl HoK.out hsz ?_;rw [hlook.out];simp only [Bool.false_eq_true,if_false])
          | (at_builtin;refine app_ownA _ rfl _ _ rfl w.heap.size (.slice (some ⟨g,0,none⟩) k c) _ (Z.take k) ((nm,fr,no,st,ls),.slice a' m' c') rfl rfl (World.ownsRow.alloc Hro.out _) (Blk.new' _ _ (acC ((nm,fr,no,st,ls),.slice a' m' c')) _ (by simp)) rfl (by simp;omega) (by simp;omega) ?_;intro v' w4 hrow4 hgr4 hnn4 hloc4;obtain ⟨g',c'',rfl⟩:=hrow4.shapeN hnn4 (k+1) (by simp;omega)))
        go_roundw
        case rel =>
          refine ⟨k+1,g',c'',by omega,by go_num,rfl,by rw [Hnx.out];exact hrow4,World.ownsRow.kept (World.ownsRow.alloc Hns.out _) hgr4 (.inr (by simp [Value.ownBlock];exact hne)),?_,(hb.alloc hws _).grown hgr4 (by simp;omega) (fun j hj=>by cases hj;exact hgw)⟩
          rcases hloc4 with h | h
          · have:g'=g:=by simpa [Value.ownBlock] using h
            omega
          · have:g'=wr.heap.size+1:=by simpa [Value.ownBlock] using h
            omega
        case measure=>simp [intOf];omega
      · have e:k=Z.length:=by omega
        subst e
        rw [List.take_length] at ho
        go_wp2
        go_ret
        exact ⟨_,_,rfl,ho,hb⟩
end Go.Proofs.YtohachldbpejpaaGreatDoor
namespace Go.Proofs.YtohachldbpejpaaGreatDoor
open Go.RowKit Go.Maps
set_option linter.unusedVariables false
theorem insZ_last (q:Ac × Value):∀ Z:List (Ac × Value),(∀ x ∈ Z,Lt x.1.1 q.1.1)->insZ q Z=Z ++ [q]
  | [],_=>rfl
  | x :: t,h=>by rw [insZ_lt (h x List.mem_cons_self),insZ_last q t (fun y hy=>h y (List.mem_cons_of_mem _ hy))];rfl
theorem asc_take {l:List Ac} (ha:AscA l) {k:Nat} (hk:k < l.length) {Z:List (Ac × Value)} (hZ:Z.map (·.1)=l.take k):Asc Z/\∀ x ∈ Z,Lt x.1.1 l[k].1:=by
  refine ⟨(asc_map Z).2 (by rw [hZ];exact List.Pairwise.sublist (List.take_sublist _ _) ha),fun x hx=>?_⟩
  have hm:x.1 ∈ l.take k:=by rw [<- hZ];exact List.mem_map_of_mem hx
  obtain ⟨j,hj,e⟩:=List.mem_iff_getElem.1 hm
  simp at hj
  rw [<- e,List.getElem_take]
  exact List.pairwise_iff_getElem.1 ha j k (by omega) hk (by omega)
theorem turned_below {w w':World} {b B:Nat} (h:w.mapTurned w' b) (hB:B<=b) (hs:B<=w.heap.size):Below B w w':=(Below.refl _ _).grown h.grown hs (fun j hj=>by cases hj;exact hB)
theorem turned_cell {w w':World} {b:Nat} (h:w.mapTurned w' b) {p:Addr} (hp:p.block ≠ b) (hl:p.block < w.heap.size):w'.cell? p=w.cell? p:=by
  have:=h.grown.block p.block hl (fun e=>hp (by injection e))
  simp only [World.cell?,this]
theorem run_makeN (n:Int) (w:World):(Instr.makeMap 283 (some (.int .i64 n))).run Tryz.prog w=.ok (.map (some w.heap.size)) (w.alloc (.map #[] 0)):=by
  simp [Instr.makeMap,run_underlying Tryz.underlying283,asInt,asIntOf,Result.andThen]
theorem bookOf_any (v:Value) (l:List Ac) (w:World) (hr:RdA w v l) (ha:AscA l) (hl:l.length<=4000000) (hall:∀ a ∈ l,a.1.size<=maxLen/\a.2.2.2.2.length<=4000000) :
    Calls Tryz.prog 205 #[v] w fun e w'=>∃ Z:List (Ac × Value),e=.returned (.map (some w.heap.size))/\Z.map (·.1)=l/\w'.ownsMap Tryz.prog 9 RV w.heap.size l.length (bookD Z)/\Lvs (w.heap.size+1) w' w.heap.size Z/\Below w.heap.size w w':=by
  have hmm:=run_makeN
  have hB0:Hid (Below w.heap.size w (w.alloc (.map #[] 0))):=hide ((Below.refl _ w).alloc (Nat.le_refl _) _)
  have hm0:Hid ((w.alloc (.map #[] 0)).ownsMap Tryz.prog 9 RV w.heap.size 0 (bookD [])):=hide (World.ownsMap_made _ _ _ _)
  rcases hr with ⟨a,cap,rfl,rfl,-⟩ | ⟨b,off,cap,h0,rfl,h1,h2,h3,h4⟩
  · go_enter Tryz.func205,Tryz.ntmps205
    go_wp2
    refine wp_loop_rounds 1 ?_
    rw [rounds_succ]
    go_wp2
    go_ret
    exact ⟨[],rfl,rfl,hm0.out,Lvs.nil _ _ _,hB0.out⟩
  · have H4:=hide h4
    have Hall:=hide hall
    have Ha:=hide ha
    clear h4 hall ha
    go_enter Tryz.func205,Tryz.ntmps205
    go_wp2
    go_loopw [11] (fun iv wr=>∃ (k:Nat) (Z:List (Ac × Value)),k<=l.length/\iv=.int .i64 k/\Z.map (·.1)=l.take k/\wr.ownsMap Tryz.prog 9 RV w.heap.size k (bookD Z)/\Lvs (w.heap.size+1) wr w.heap.size Z/\Below w.heap.size w wr) (fun iv _=>l.length - (intOf iv).toNat)
    case atStart=>exact ⟨0,[],Nat.zero_le _,rfl,rfl,hm0.out,Lvs.nil _ _ _,hB0.out⟩
    case round =>
      obtain ⟨k,Z,hk,rfl,hZ,ho,hlv,hb⟩:=hrel
      clear hm0 hB0
      by_cases hlt:k < l.length
      · obtain ⟨lv,hat,hrl⟩:=H4.out k hlt
        obtain ⟨c0,c1,c2,c3,c4⟩:=hat.below hb h3
        have hli:(k:Int) < (l.length:Int):=by omega
        have hbb:b < wr.heap.size:=Nat.lt_of_lt_of_le h3 hb.size
        have hwl:w.heap.size < wr.heap.size:=ho.lt
        have hshape:=hrl.shape
        have Hrl:=hide (hrl.below hb (Nat.le_refl _))
        have hls:=Hall.out l[k] (List.getElem_mem _)
        have HZ2:Hid (∀ lv':Value,(Z ++ [(l[k],lv')]).map (·.1)=l.take (k+1)):=hide (fun lv'=>by rw [List.map_append,hZ,List.take_succ_eq_append_getElem hlt];rfl)
        have Hasc:=hide (asc_take Ha.out hlt hZ)
        have Ho:=hide ho
        have Hlv:=hide hlv
        clear hat hrl ho hlv hZ
        generalize l[k]=ak at c0 c1 c2 c3 hshape Hrl hls HZ2 Hasc
        obtain ⟨nm,fr,no,st,ls⟩:=ak
        obtain ⟨av,cv,rfl⟩:=hshape
        simp only at c0 c1 c2 c3 Hrl hls
        obtain ⟨w1,hw1⟩:∃ w1,wr.alloc (.cells #[.string nm,.int .i64 fr,.int .i64 no,.int .i64 st,.slice av ls.length cv] 105)=w1:=⟨_,rfl⟩
        have hA:Below wr.heap.size wr w1.drew:=by rw [<- hw1];exact ((Below.refl _ wr).alloc (Nat.le_refl _) _).drew
        have hk1:Blk w1.drew wr.heap.size 105 [.string nm,.int .i64 fr,.int .i64 no,.int .i64 st,.slice av ls.length cv]:=by rw [<- hw1];exact Blk.new wr _ _
        have HC:=hide (implCopied_any (nm,fr,no,st,ls) (.slice av ls.length cv) w1.drew (Hrl.out.below hA (Nat.le_refl _)) hls.2)
        simp only [acV] at HC
        have Hstore:Hid (∀ (w2:World) (av':Option Addr) (cv':Nat),Below w1.drew.heap.size w1.drew w2->∃ w3,(Instr.mapUpdate 283 (.map (some w.heap.size)) (.string nm) (.agg #[.string nm,.int .i64 fr,.int .i64 no,.int .i64 st,.slice av' ls.length cv'])).run Tryz.prog w2=.ok () w3/\w3.ownsMap Tryz.prog 9 RV w.heap.size (k+1) (bookD (Z ++ [((nm,fr,no,st,ls),.slice av' ls.length cv')]))/\w2.mapTurned w3 w.heap.size):=hide (fun w2 av' cv' hb2=>by
          have ho2:=book_below Ho.out (hA.trans (hb2.mono hA.size)) hwl
          obtain ⟨w3,e1,e2,e3⟩:=ho2.store key_law Tryz.underlying283 (by unfold maxLen;omega) (val:=acV (nm,fr,no,st,ls) (.slice av' ls.length cv')) (key_of nm hls.1) rfl
          refine ⟨w3,e1,?_,e3⟩
          have:=put_book Z Hasc.out.1 ((nm,fr,no,st,ls),.slice av' ls.length cv')
          rw [this,insZ_last _ Z Hasc.out.2] at e2
          exact e2)
        have e0:=hk1.cell 0
        have e1:=hk1.cell 1
        have e2:=hk1.cell 2
        have e3:=hk1.cell 3
        have e4:=hk1.cell 4
        simp only [List.getElem?_cons_zero,List.getElem?_cons_succ] at e0 e1 e2 e3 e4
        have hS1:w1.drew.cell? ⟨wr.heap.size,0,none⟩=some (.string nm)/\w1.drew.cell? ⟨wr.heap.size,1,none⟩=some (.int .i64 fr)/\w1.drew.cell? ⟨wr.heap.size,2,none⟩=some (.int .i64 no)/\w1.drew.cell? ⟨wr.heap.size,3,none⟩=some (.int .i64 st)/\w1.drew.cell? ⟨wr.heap.size,4,none⟩=some (.slice av ls.length cv):=⟨e0,e1,e2,e3,e4⟩
        have hlt1:wr.heap.size < w1.drew.heap.size:=hk1.lt
        clear e0 e1 e2 e3 e4 hk1
        go_wp2
        clear c0 c1 c2 c3 c4
        go_region_held_law (fun w'=>w'.cell? ⟨wr.heap.size,0,none⟩=some (.string nm)/\w'.cell? ⟨wr.heap.size,1,none⟩=some (.int .i64 fr)/\w'.cell? ⟨wr.heap.size,2,none⟩=some (.int .i64 no)/\w'.cell? ⟨wr.heap.size,3,none⟩=some (.int .i64 st)/\w'.cell? ⟨wr.heap.size,4,none⟩=some (.slice av ls.length cv)) (first | exact hS1 | exact hS2 | exact hS3)
          ((go_at_call 161;refine HC.out.mono ?_;rintro e w2 ⟨lv',rfl,ho2,hb2⟩;obtain ⟨av',cv',rfl⟩:=ho2.rd.shape;obtain ⟨w3,hrun3,hmap3,htu3⟩:=Hstore.out w2 av' cv' hb2;have hS2:w2.cell? ⟨wr.heap.size,0,none⟩=some (.string nm)/\w2.cell? ⟨wr.heap.size,1,none⟩=some (.int .i64 fr)/\w2.cell? ⟨wr.heap.size,2,none⟩=some (.int .i64 no)/\w2.cell? ⟨wr.heap.size,3,none⟩=some (.int .i64 st)/\w2.cell? ⟨wr.heap.size,4,none⟩=some (.slice av ls.length cv):=⟨(hb2.cell (p:=⟨wr.heap.size,0,none⟩) hlt1).trans hS1.1,(hb2.cell (p:=⟨wr.heap.size,1,none⟩) hlt1).trans hS1.2.1,(hb2.cell (p:=⟨wr.heap.size,2,none⟩) hlt1).trans hS1.2.2.1,(hb2.cell (p:=⟨wr.heap.size,3,none⟩) hlt1).trans hS1.2.2.2.1,(hb2.cell (p:=⟨wr.heap.size,4,none⟩) hlt1).trans hS1.2.2.2.2⟩;have hlt2:wr.heap.size < w2.heap.size:=Nat.lt_of_lt_of_le hlt1 hb2.size;have hS3:w3.cell? ⟨wr.heap.size,0,none⟩=some (.string nm)/\w3.cell? ⟨wr.heap.size,1,none⟩=some (.int .i64 fr)/\w3.cell? ⟨wr.heap.size,2,none⟩=some (.int .i64 no)/\w3.cell? ⟨wr.heap.size,3,none⟩=some (.int .i64 st)/\w3.cell? ⟨wr.heap.size,4,none⟩=some (.slice av ls.length cv):=⟨(turned_cell htu3 (p:=⟨wr.heap.size,0,none⟩) (Nat.ne_of_gt hwl) hlt2).trans hS2.1,(turned_cell htu3 (p:=⟨wr.heap.size,1,none⟩) (Nat.ne_of_gt hwl) hlt2).trans hS2.2.1,(turned_cell htu3 (p:=⟨wr.heap.size,2,none⟩) (Nat.ne_of_gt hwl) hlt2).trans hS2.2.2.1,(turned_cell htu3 (p:=⟨wr.heap.size,3,none⟩) (Nat.ne_of_gt hwl) hlt2).trans hS2.2.2.2.1,(turned_cell htu3 (p:=⟨wr.heap.size,4,none⟩) (Nat.ne_of_gt hwl) hlt2).trans hS2.2.2.2.2⟩))
        have hB2:Below wr.heap.size wr w2:=hA.trans (hb2.mono hA.size)
        have hlv3:Lvs (w.heap.size+1) w3 w.heap.size (Z ++ [((nm,fr,no,st,ls),.slice av' ls.length cv')]):=Lvs.grown ((Hlv.out.below hB2 (Nat.le_refl _)).snoc ((nm,fr,no,st,ls),.slice av' ls.length cv') (OwnL.mono ho2 (by omega)) (fun j hj=>by have:=OwnL.ge ho2 j hj;omega)
          (fun i hi j hj e=>by have:=(Hlv.out.own i hi).lt j hj;have:=OwnL.ge ho2 j e;omega)) htu3.grown
        have hB3:Below w.heap.size w w3:=(hb.trans (hB2.mono hb.size)).trans (turned_below htu3 (Nat.le_refl _) (by have:=hB2.size;omega))
        clear hrun3
        go_wp2
        go_roundw
        case rel=>exact ⟨k+1,_,by omega,by go_num,HZ2.out _,hmap3,hlv3,hB3⟩
        case measure=>simp [intOf];omega
      · have e:k=l.length:=by omega
        subst e
        rw [List.take_length] at hZ
        go_wp2
        go_ret
        exact ⟨Z,rfl,hZ,ho,hlv,hb⟩
end Go.Proofs.YtohachldbpejpaaGreatDoor
