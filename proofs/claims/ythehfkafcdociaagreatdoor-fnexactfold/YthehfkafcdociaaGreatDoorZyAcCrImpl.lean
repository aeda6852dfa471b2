/- The landed code's Credit. -/
import Derived.Test.YthehfkafcdociaaGreatDoorZyAcBookOf
import Derived.Test.YthehfkafcdociaaGreatDoorZyAcImpl2
import Derived.RegionTactic
set_option maxRecDepth 20000
set_option maxHeartbeats 2000000
namespace Go.Proofs.YthehfkafcdociaaGreatDoor
open Go.RowKit Go.Maps
set_option linter.unusedVariables false
def befZ (s:ByteArray) (Z:List (Ac × Value)):Ac × Value:=(getZ s Z).getD ((ByteArray.empty,0,0,0,[]),.slice none 0 0)
theorem look_bef (s:ByteArray) (Z:List (Ac × Value)):lookB s Z=acV (befZ s Z).1 (befZ s Z).2:=by
  unfold lookB befZ
  cases getZ s Z <;> rfl
theorem aft_bef (s:ByteArray) (n:Int) (Z:List (Ac × Value)):aftA (Z.map (·.1)) s n=(s,wrap64 ((befZ s Z).1.2.1+n),(befZ s Z).1.2.2):=by
  unfold aftA befZ
  rw [<- getZ_fst]
  cases getZ s Z <;> rfl
theorem insZ_new (q:Ac × Value):∀ Z:List (Ac × Value),(∀ x ∈ Z,x.1.1 ≠ q.1.1)->(insZ q Z).Perm (q :: Z)
  | [],_=>List.Perm.refl _
  | x :: t,h=>by
    by_cases hl:Lt x.1.1 q.1.1
    · rw [insZ_lt hl]
      exact ((insZ_new q t (fun y hy=>h y (List.mem_cons_of_mem _ hy))).cons x).trans (List.Perm.swap q x t)
    · rw [insZ_gt (lt_or hl (h x List.mem_cons_self))]
theorem insZ_tl (q':Ac × Value):∀ {Z:List (Ac × Value)} {q:Ac × Value},Asc Z->getZ q'.1.1 Z=some q->tlZ q'=tlZ q->(insZ q' Z).map tlZ=Z.map tlZ
  | [],q,_,h,_=>by simp [getZ] at h
  | x :: t,q,ha,h,e=>by
    obtain ⟨h1,h2⟩:=List.pairwise_cons.1 ha
    unfold getZ at h
    split at h
    · rename_i he
      simp at h
      subst h
      rw [insZ_eq he,List.map_cons,List.map_cons,e]
    · have hq:=getZ_name h
      have hl:Lt x.1.1 q'.1.1:=by rw [<- hq.1];exact h1 q hq.2
      rw [insZ_lt hl,List.map_cons,List.map_cons,insZ_tl q' h2 h e]
theorem Lvs.put {base:Nat} {w:World} {g:Nat} {Z:List (Ac × Value)} (h:Lvs base w g Z) (ha:Asc Z) (s:ByteArray) (n:Int):Lvs base w g (insZ ((s,wrap64 ((befZ s Z).1.2.1+n),(befZ s Z).1.2.2),(befZ s Z).2) Z):=by
  cases hg:getZ s Z with
  | some q =>
    have e:befZ s Z=q:=by unfold befZ;rw [hg];rfl
    rw [e]
    exact h.same (insZ_tl _ ha hg rfl)
  | none =>
    have e:befZ s Z=((ByteArray.empty,0,0,0,[]),.slice none 0 0):=by unfold befZ;rw [hg];rfl
    rw [e]
    refine LvQ.lvs ?_
    refine (LvQ.cons_nil h.heap).perm ?_
    exact ((insZ_new ((s,wrap64 (0+n),0,0,[]),.slice none 0 0) Z (fun x hx=>getZ_none hg x hx)).map tlZ).symm
theorem insZ_len (q:Ac × Value):∀ Z:List (Ac × Value),(insZ q Z).length<=Z.length+1
  | []=>by simp [insZ]
  | x :: t=>by
    have:=insZ_len q t
    unfold insZ
    split
    · simp;omega
    · split <;> simp
theorem del_again (es:List (Lit × DataW Value)) (k:Lit) (hk:k.sameKey k=true) (d:DataW Value):((DataW.map es).put k d).del k=(DataW.map es).del k:=by
  show DataW.map _=DataW.map _
  rw [filt_insert k d hk,List.filter_filter]
  simp
theorem RowA.mono {base base':Nat} {w:World} {v:Value} {Z:List (Ac × Value)} (h:RowA base w v Z) (hB:base'<=base):RowA base' w v Z:=by
  refine ⟨h.1,?_⟩
  rcases h.2 with h' | ⟨g',cap',cur,hv,hbb,r⟩
  · exact .inl h'
  · exact .inr ⟨g',cap',cur,hv,by omega,r⟩
theorem Lvs.to {base:Nat} {w w':World} {b g:Nat} {Z:List (Ac × Value)} (h:Lvs base w b Z) (hb:Below w.heap.size w w') (hg:w.heap.size<=g):Lvs base w' g Z :=
  ⟨fun i hi=>(h.own i hi).below hb (Nat.le_refl _),fun i hi k hk=>by have:=(h.own i hi).lt k hk;omega,h.apart⟩
theorem book_mono {w:World} {b n n':Nat} {D:DataW Value} (h:w.ownsMap Tryz.prog 9 RV b n D) (hn:n<=n'):w.ownsMap Tryz.prog 9 RV b n' D:=by
  obtain ⟨es,clock,h1,h2,h3,h4⟩:=h
  exact ⟨es,clock,h1,h2,by omega,h4⟩
def Given (base b m:Nat) (w:World) (X:Bool) (L:List Ac) (e:Ending) (w':World):Prop :=
  ∃ Z':List (Ac × Value),e=.returned (.bool X)/\w'.ownsMap Tryz.prog 9 RV b (m+2) (bookD Z')/\Lvs base w' b Z'/\Asc Z'/\Z'.map (·.1)=L/\Below b w w'
def leftA (l l':List Ac):List Ac:=if acsB l'=true then l' else l
theorem leftA_yes {l l':List Ac} (h:acsB l'=true):leftA l l'=l':=if_pos h
theorem leftA_no {l l':List Ac} (h:acsB l'=false):leftA l l'=l:=if_neg (by rw [h];simp)
theorem give_any (b m:Nat) (Z:List (Ac × Value)) (s:ByteArray) (n:Int) (base:Nat) (w:World) (hown:w.ownsMap Tryz.prog 9 RV b m (bookD Z)) (ha:Asc Z) (hlv:Lvs base w b Z) (hm:m<=1000000) (hl:Z.length<=1000000)
    (hnm:∀ q ∈ Z,q.1.1.size<=maxLen/\q.1.2.2.2.2.length<=4000000) (hs:s.size<=maxLen) :
    Calls Tryz.prog 160 #[.map (some b),.string s,.int .i64 n] w fun e w'=>Given base b m w (acsB (insA (aftA (Z.map (·.1)) s n) (Z.map (·.1)))) (leftA (Z.map (·.1)) (insA (aftA (Z.map (·.1)) s n) (Z.map (·.1)))) e w':=by
  have hbl:=hown.lt
  have Ho:=hide hown
  have Hlv:=hide hlv
  have Hlk:=hide (look_bef s Z)
  have hshape:∃ a' m' c',(befZ s Z).2=.slice a' m' c':=by
    unfold befZ
    cases hg:getZ s Z with
    | none=>exact ⟨_,_,_,rfl⟩
    | some q =>
      obtain ⟨i,hi,e⟩:=List.mem_iff_getElem.1 (getZ_name hg).2
      obtain ⟨a',c',e'⟩:=(hlv.own i hi).rd.shape
      exact ⟨a',_,c',by rw [<- e];exact e'⟩
  generalize hbef:befZ s Z=q at Hlk hshape
  obtain ⟨⟨nm,fr,no,st,ls⟩,lv⟩:=q
  obtain ⟨a',m',c',hlv'⟩:=hshape
  simp only at hlv'
  subst hlv'
  simp only [acV] at Hlk
  generalize hhas:(getZ s Z).isSome=there
  have Hput:=hide (Lvs.put hlv ha s n)
  have Hpb:Hid ((bookD Z).put (keyB s) (.held (.agg #[.string s,.int .i64 (wrap64 (fr+n)),.int .i64 no,.int .i64 st,.slice a' m' c']))=bookD (insZ ((s,wrap64 (fr+n),no,st,ls),.slice a' m' c') Z)):=hide (put_book Z ha ((s,wrap64 (fr+n),no,st,ls),.slice a' m' c'))
  have Haft:=aft_bef s n Z
  rw [hbef] at Hput Haft
  simp only at Hput Haft
  have hls:ls.length<=4000000:=by
    unfold befZ at hbef
    cases hg:getZ s Z with
    | none=>rw [hg] at hbef;simp at hbef;rw [hbef.1.2.2.2.2];simp
    | some q =>
      rw [hg] at hbef
      have:=(hnm q (getZ_name hg).2).2
      simp at hbef
      rw [hbef] at this
      exact this
  have Hsl1:Hid (∀ q ∈ insZ ((s,wrap64 (fr+n),no,st,ls),.slice a' m' c') Z,∃ a m c,q.2=.slice a m c):=hide (fun q hq=>by
    obtain ⟨i,hi,e⟩:=List.mem_iff_getElem.1 hq
    obtain ⟨a'',c'',e'⟩:=(Hput.out.own i hi).rd.shape
    exact ⟨a'',_,c'',by rw [<- e];exact e'⟩)
  have Hnm1:Hid (∀ q ∈ insZ ((s,wrap64 (fr+n),no,st,ls),.slice a' m' c') Z,q.1.1.size<=maxLen/\q.1.2.2.2.2.length<=4000000):=hide (fun q hq=>by
    rcases insZ_mem _ _ _ hq with rfl | hq
    · exact ⟨hs,hls⟩
    · exact hnm q hq)
  have Hlen1:=hide (insZ_len ((s,wrap64 (fr+n),no,st,ls),.slice a' m' c') Z)
  have Hasc1:=hide (insZ_asc ((s,wrap64 (fr+n),no,st,ls),.slice a' m' c') Z ha)
  have Hfst1:insA (s,wrap64 (fr+n),no,st,ls) (Z.map (·.1))=(insZ ((s,wrap64 (fr+n),no,st,ls),.slice a' m' c') Z).map (·.1):=(insZ_fst ((s,wrap64 (fr+n),no,st,ls),.slice a' m' c') Z).symm
  have Hback:Hid (there=true->(bookD (insZ ((s,wrap64 (fr+n),no,st,ls),.slice a' m' c') Z)).put (keyB s) (.held (.agg #[.string nm,.int .i64 fr,.int .i64 no,.int .i64 st,.slice a' m' c']))=bookD Z):=hide (fun ht=>by
    unfold befZ at hbef
    cases hg:getZ s Z with
    | none=>rw [hg] at hhas;rw [ht] at hhas;cases hhas
    | some q =>
      rw [hg] at hbef
      simp at hbef
      subst hbef
      have e:=getZ_name hg
      simp only at e
      have hp:=put_book (insZ ((s,wrap64 (fr+n),no,st,ls),.slice a' m' c') Z) (insZ_asc _ Z ha) ((nm,fr,no,st,ls),.slice a' m' c')
      rw [insZ_back ((s,wrap64 (fr+n),no,st,ls),.slice a' m' c') rfl ha hg] at hp
      rw [show keyB s=keyB nm from by rw [e.1]]
      exact hp)
  have Hdel:Hid (there=false->∀ d,((bookD (insZ ((s,wrap64 (fr+n),no,st,ls),.slice a' m' c') Z)).put (keyB s) d).del (keyB s)=bookD Z):=hide (fun ht d=>by
    have hg:getZ s Z=none:=by
      cases hg:getZ s Z with
      | none=>rfl
      | some q=>rw [hg] at hhas;rw [ht] at hhas;cases hhas
    have h1:=del_again ((insZ ((s,wrap64 (fr+n),no,st,ls),.slice a' m' c') Z).map ent) (keyB s) (key_same rfl) d
    have h2:=del_put Z s (.held (acV (s,wrap64 (fr+n),no,st,ls) (.slice a' m' c'))) hg
    rw [put_book Z ha ((s,wrap64 (fr+n),no,st,ls),.slice a' m' c')] at h2
    exact h1.trans h2)
  rw [Haft,Hfst1]
  have Hhas:=hide hhas
  clear Hfst1 Haft hbef hhas hls
  generalize insZ ((s,wrap64 (fr+n),no,st,ls),.slice a' m' c') Z=Z1 at *
  clear hown hlv
  go_enter Tryz.func160,Tryz.ntmps160
  go_wp2_with (at_lookup;refine step_look _ rfl _ _ true rfl b m Z s rfl rfl Ho.out hs ?_;rw [Hlk.out,Hhas.out];simp only [if_true])
  go_region
  obtain ⟨w2,hw2⟩:∃ w2,((w.alloc (.cells #[.string nm,.int .i64 fr,.int .i64 no,.int .i64 st,.slice a' m' c'] 122)).alloc (.cells #[.string s,.int .i64 (wrap64 (fr+n)),.int .i64 no,.int .i64 st,.slice a' m' c'] 122)).drew=w2:=⟨_,rfl⟩
  rw [hw2]
  have hb2:Below w.heap.size w w2:=by rw [<- hw2];exact (((Below.refl _ w).alloc (Nat.le_refl _) _).alloc (by simp) _).drew
  have k0:Blk w2 w.heap.size 122 [.string nm,.int .i64 fr,.int .i64 no,.int .i64 st,.slice a' m' c']:=by
    rw [<- hw2]
    exact ((Blk.new w 122 [.string nm,.int .i64 fr,.int .i64 no,.int .i64 st,.slice a' m' c']).below (((Below.refl _ _).alloc (Nat.le_refl _) _).drew) (by simp))
  have k1:Blk w2 (w.heap.size+1) 122 [.string s,.int .i64 (wrap64 (fr+n)),.int .i64 no,.int .i64 st,.slice a' m' c']:=by
    rw [<- hw2]
    exact Blk.new' _ 122 [.string s,.int .i64 (wrap64 (fr+n)),.int .i64 no,.int .i64 st,.slice a' m' c'] _ (by simp)
  have e0:=k1.cell 0
  have e1:=k1.cell 1
  have e2:=k1.cell 2
  have e3:=k1.cell 3
  have e4:=k1.cell 4
  simp only [List.getElem?_cons_zero,List.getElem?_cons_succ] at e0 e1 e2 e3 e4
  have hs2:w.heap.size < w2.heap.size:=k0.lt
  have Ho2:=hide (book_below Ho.out hb2 hbl)
  have K0:=hide k0
  clear k0 k1
  go_wp2_with (at_mapUpdate;refine wpList_mapUpdate_in _ rfl _ _ _ 272 rfl 9 122 key_law Tryz.underlying272 RV b m (bookD Z) rfl Ho2.out (by unfold maxLen;omega) (.string s) (.agg #[.string s,.int .i64 (wrap64 (fr+n)),.int .i64 no,.int .i64 st,.slice a' m' c']) (keyB s) rfl rfl (key_of s hs) (.held (.agg #[.string s,.int .i64 (wrap64 (fr+n)),.int .i64 no,.int .i64 st,.slice a' m' c'])) [] rfl ?_;intro w3 hown3 htu3)
  rw [Hpb.out] at hown3
  have hbz3:w2.heap.size<=w3.heap.size:=htu3.grown.size
  have hB3:Below b w w3:=(hb2.mono (by omega)).trans (turned_below htu3 (Nat.le_refl _) (by omega))
  have HlvZ:=hide (Lvs.grown (Hlv.out.below hb2 (Nat.le_refl _)) htu3.grown)
  have Hlv1:=hide (Lvs.grown (Hput.out.below hb2 (Nat.le_refl _)) htu3.grown)
  have K03:Hid (Blk w3 w.heap.size 122 [.string nm,.int .i64 fr,.int .i64 no,.int .i64 st,.slice a' m' c']):=hide ((htu3.grown.block w.heap.size hs2 (fun e=>by injection e with e;omega)).trans K0.out)
  have Hown3:=hide hown3
  have hlen1:=Hlen1.out
  clear hown3 htu3 hb2 e0 e1 e2 e3 e4 Ho2 K0
  refine (listed_any b (m+1) Z1 w3 Hown3.out Hasc1.out (by omega) (fun q hq=>(Hnm1.out q hq).1) Hsl1.out).mono ?_
  rintro e w4 ⟨g,cap,rfl,hrow4,hb4⟩
  have hgw:w3.heap.size<=g:=hrow4.ge g rfl
  have HA:=hide (implAcctsOk_any (.slice (some ⟨g,0,none⟩) Z1.length cap) (Z1.map (·.1)) w4 (OwnA.of_row (hrow4.mono (Nat.zero_le _)) ((Hlv1.out.mono (Nat.zero_le _)).to hb4 hgw)).rd (by simp;omega) (fun a haa=>by
    obtain ⟨q,hq,rfl⟩:=List.mem_map.1 haa
    exact Hnm1.out q hq))
  have Hown4:=hide (book_below Hown3.out hb4 (by omega))
  have Hlv14:=hide (Hlv1.out.below hb4 (Nat.le_refl _))
  have HlvZ4:=hide (HlvZ.out.below hb4 (Nat.le_refl _))
  have K04:=hide (K03.out.below hb4 (by omega))
  have hB4:Below b w w4:=hB3.trans (hb4.mono (by omega))
  have hsz4:=hb4.size
  clear hrow4 hb4 hB3 K03 Hlv1 HlvZ Hown3
  go_wp2_with fail
  refine HA.out.mono ?_
  rintro e w5 ⟨rfl,hb5⟩
  have hown5:=book_below Hown4.out hb5 (by omega)
  have hlv15:=Hlv14.out.below hb5 (Nat.le_refl _)
  have hlvZ5:=HlvZ4.out.below hb5 (Nat.le_refl _)
  have k5:=K04.out.below hb5 (by omega)
  have hB5:Below b w w5:=hB4.trans (hb5.mono (by omega))
  have hsz5:=hb5.size
  clear Hown4 Hlv14 HlvZ4 K04 hb5 hB4 HA
  cases hX:acsB (Z1.map (·.1))
  · have Hown5:=hide hown5
    have Hlv5:=hide hlvZ5
    have HX:=hide hX
    have e0:=k5.cell 0
    have e1:=k5.cell 1
    have e2:=k5.cell 2
    have e3:=k5.cell 3
    have e4:=k5.cell 4
    simp only [List.getElem?_cons_zero,List.getElem?_cons_succ] at e0 e1 e2 e3 e4
    clear hown5 hlv15 hlvZ5 k5 hX
    cases there
    · go_wp2_with (first
        | (at_mapUpdate;refine wpList_mapUpdate_in _ rfl _ _ _ 272 rfl 9 122 key_law Tryz.underlying272 RV b (m+1) (bookD Z1) rfl Hown5.out (by unfold maxLen;omega) (.string s) (.agg #[.string nm,.int .i64 fr,.int .i64 no,.int .i64 st,.slice a' m' c']) (keyB s) rfl rfl (key_of s hs) (.held (.agg #[.string nm,.int .i64 fr,.int .i64 no,.int .i64 st,.slice a' m' c'])) [] rfl ?_;intro w6 hown6 htu6)
        | (at_delete;refine wpList_delete_own _ rfl _ _ 272 9 rfl 122 key_law Tryz.underlying272 RV b (m+1+1) _ rfl hown6 (.string s) (keyB s) rfl (key_of s hs) ?_;intro w7 hown7 htu7))
      go_ret
      rw [Hdel.out (by simp)] at hown7
      rw [HX.out,leftA_no HX.out]
      have hsz6:=htu6.grown.size
      exact ⟨Z,rfl,hown7,Lvs.grown (Lvs.grown Hlv5.out htu6.grown) htu7.grown,ha,rfl,(hB5.trans (turned_below htu6 (Nat.le_refl _) (by omega))).trans (turned_below htu7 (Nat.le_refl _) (by omega))⟩
    · go_wp2_with (at_mapUpdate;refine wpList_mapUpdate_in _ rfl _ _ _ 272 rfl 9 122 key_law Tryz.underlying272 RV b (m+1) (bookD Z1) rfl Hown5.out (by unfold maxLen;omega) (.string s) (.agg #[.string nm,.int .i64 fr,.int .i64 no,.int .i64 st,.slice a' m' c']) (keyB s) rfl rfl (key_of s hs) (.held (.agg #[.string nm,.int .i64 fr,.int .i64 no,.int .i64 st,.slice a' m' c'])) [] rfl ?_;intro w6 hown6 htu6)
      go_ret
      rw [Hback.out (by simp)] at hown6
      rw [HX.out,leftA_no HX.out]
      exact ⟨Z,rfl,hown6,Lvs.grown Hlv5.out htu6.grown,ha,rfl,hB5.trans (turned_below htu6 (Nat.le_refl _) (by omega))⟩
  · have HX:=hide hX
    clear hX k5
    go_wp2
    go_ret
    rw [HX.out,leftA_yes HX.out]
    exact ⟨Z1,rfl,book_mono hown5 (by omega),hlv15,Hasc1.out,rfl,hB5⟩
end Go.Proofs.YthehfkafcdociaaGreatDoor
namespace Go.Proofs.YthehfkafcdociaaGreatDoor
open Go.RowKit Go.Maps
set_option linter.unusedVariables false
theorem crA_good {l:List Ac} {s:ByteArray} {n:Int} (h:(acsB l && nmB s && inB n 0 1000000)=true):crA l s n=(leftA l (insA (aftA l s n) l),acsB (insA (aftA l s n) l)):=by
  cases h':acsB (insA (aftA l s n) l)
  · rw [crA_bad h h',leftA_no h']
  · rw [crA_yes h h',leftA_yes h']
theorem acs_len {l:List Ac} (h:acsB l=true):l.length<=12:=by
  unfold acsB at h
  simp only [Bool.and_eq_true,decide_eq_true_eq] at h
  exact h.2.1
theorem insA_mem (q:Ac):∀ (Z:List Ac) (p:Ac),p ∈ insA q Z->p=q\/p ∈ Z
  | [],p,h=>by simp [insA] at h;exact .inl h
  | x :: t,p,h=>by
    unfold insA at h
    split at h
    · rcases List.mem_cons.1 h with rfl | h
      · exact .inr List.mem_cons_self
      · rcases insA_mem q t p h with h | h
        · exact .inl h
        · exact .inr (List.mem_cons_of_mem _ h)
    · split at h
      · rcases List.mem_cons.1 h with rfl | h
        · exact .inl rfl
        · exact .inr (List.mem_cons_of_mem _ h)
      · rcases List.mem_cons.1 h with rfl | h
        · exact .inl rfl
        · exact .inr h
theorem insA_len (q:Ac):∀ Z:List Ac,(insA q Z).length<=Z.length+1
  | []=>by simp [insA]
  | x :: t=>by
    have:=insA_len q t
    unfold insA
    split
    · simp;omega
    · split <;> simp
theorem aftA_name (l:List Ac) (s:ByteArray) (n:Int):(aftA l s n).1=s:=by
  unfold aftA
  cases getA s l <;> rfl
theorem leftA_len (l:List Ac) (s:ByteArray) (n:Int):(leftA l (insA (aftA l s n) l)).length<=l.length+1:=by
  unfold leftA
  split
  · exact insA_len _ _
  · omega
theorem leftA_mem {l:List Ac} {s:ByteArray} {n:Int} {p:Ac} (h:p ∈ leftA l (insA (aftA l s n) l)):p.1=s\/p ∈ l:=by
  unfold leftA at h
  split at h
  · rcases insA_mem _ _ _ h with rfl | h
    · exact .inl (aftA_name l s n)
    · exact .inr h
  · exact .inr h
theorem implCredit_any (v:Value) (l:List Ac) (s:ByteArray) (n:Int) (w:World) (hr:RdA w v l) (hl:l.length<=3999999) (hall:∀ a ∈ l,a.1.size<=maxLen/\a.2.2.2.2.length<=4000000) (hs:s.size<=maxLen) :
    Calls Tryz.prog 152 #[v,.string s,.int .i64 n] w fun e w'=>∃ v',e=.returned (.tuple #[v',.bool (crA l s n).2])/\OwnA w.heap.size w' v' (crA l s n).1/\Below w.heap.size w w':=by
  have hall2:∀ a ∈ l,a.2.2.2.2.length<=4000000:=fun a ha=>(hall a ha).2
  have HOk:=hide (implAcctsOk_any v l w hr (by omega) hall)
  have HC:=hide (fun w h=>implCopiedS_any v l w h (by omega) hall2)
  have Hr:=hide hr
  have Hall:=hide hall
  clear hr hall hall2
  cases h1:acsB l
  · have Hcr:=hide (crA_no (l:=l) (s:=s) (n:=n) (by rw [h1];rfl))
    rw [h1] at HOk
    clear h1
    rw [Hcr.out]
    go_enter Tryz.func152,Tryz.ntmps152
    go_wp2_with fail
    refine HOk.out.mono ?_
    rintro e w1 ⟨rfl,hb1⟩
    go_wp2_with fail
    refine (HC.out _ (Hr.out.below hb1 (Nat.le_refl _))).mono ?_
    rintro e w2 ⟨v2,rfl,ho2,hb2⟩
    have Ho2:=hide (OwnA.mono ho2 hb1.size)
    have HB:=hide (hb1.trans (hb2.mono hb1.size))
    clear ho2 hb1 hb2
    go_wp2
    go_ret2
    exact ⟨v2,rfl,Ho2.out,HB.out⟩
  · rw [h1] at HOk
    cases h2:nmB s
    · have Hcr:=hide (crA_no (l:=l) (s:=s) (n:=n) (by rw [h1,h2];rfl))
      clear h1
      rw [Hcr.out]
      go_enter Tryz.func152,Tryz.ntmps152
      go_wp2_with fail
      refine HOk.out.mono ?_
      rintro e w1 ⟨rfl,hb1⟩
      go_wp2_with fail
      refine (implNameOk_any s _ hs).mono ?_
      rintro e w1 ⟨rfl,rfl⟩
      rw [h2]
      go_wp2_with fail
      refine (HC.out _ (Hr.out.below hb1 (Nat.le_refl _))).mono ?_
      rintro e w2 ⟨v2,rfl,ho2,hb2⟩
      have Ho2:=hide (OwnA.mono ho2 hb1.size)
      have HB:=hide (hb1.trans (hb2.mono hb1.size))
      clear ho2 hb1 hb2
      go_wp2
      go_ret2
      exact ⟨v2,rfl,Ho2.out,HB.out⟩
    · cases h3:inB n 0 1000000
      · have Hcr:=hide (crA_no (l:=l) (s:=s) (n:=n) (by rw [h1,h2,h3];rfl))
        clear h1
        rw [Hcr.out]
        go_enter Tryz.func152,Tryz.ntmps152
        go_wp2_with fail
        refine HOk.out.mono ?_
        rintro e w1 ⟨rfl,hb1⟩
        go_wp2_with fail
        refine (implNameOk_any s _ hs).mono ?_
        rintro e w1 ⟨rfl,rfl⟩
        rw [h2]
        go_wp2_with fail
        refine (implWithin_any _ _ _ _).mono ?_
        rintro e w1 ⟨rfl,rfl⟩
        rw [h3]
        go_wp2_with fail
        refine (HC.out _ (Hr.out.below hb1 (Nat.le_refl _))).mono ?_
        rintro e w2 ⟨v2,rfl,ho2,hb2⟩
        have Ho2:=hide (OwnA.mono ho2 hb1.size)
        have HB:=hide (hb1.trans (hb2.mono hb1.size))
        clear ho2 hb1 hb2
        go_wp2
        go_ret2
        exact ⟨v2,rfl,Ho2.out,HB.out⟩
      · have hasc:=asc_of_ok l h1
        have hl12:=acs_len h1
        rw [crA_good (show (acsB l && nmB s && inB n 0 1000000)=true from by rw [h1,h2,h3];rfl)]
        have HBk:=hide (fun w h=>bookOf_any v l w h hasc (by omega) Hall.out)
        have Hlen:=hide (leftA_len l s n)
        have Hmem:=hide (fun p=>leftA_mem (l:=l) (s:=s) (n:=n) (p:=p))
        have Hasc:=hide hasc
        clear h1 hasc HC
        go_enter Tryz.func152,Tryz.ntmps152
        go_wp2_with fail
        refine HOk.out.mono ?_
        rintro e w1 ⟨rfl,hb1⟩
        go_wp2_with fail
        refine (implNameOk_any s _ hs).mono ?_
        rintro e w1 ⟨rfl,rfl⟩
        rw [h2]
        go_wp2_with fail
        refine (implWithin_any _ _ _ _).mono ?_
        rintro e w1 ⟨rfl,rfl⟩
        rw [h3]
        go_wp2_with fail
        refine (HBk.out _ (Hr.out.below hb1 (Nat.le_refl _))).mono ?_
        rintro e w2 ⟨Z,rfl,hZ,hown2,hlv2,hb2⟩
        have hZl:Z.length=l.length:=by rw [<- hZ];simp
        have HG:=hide (give_any w1.heap.size l.length Z s n (w1.heap.size+1) w2 hown2 ((asc_map Z).2 (by rw [hZ];exact Hasc.out)) hlv2 (by omega) (by omega) (fun q hq=>Hall.out q.1 (by rw [<- hZ];exact List.mem_map_of_mem hq)) hs)
        rw [hZ] at HG
        have hB2:Below w.heap.size w w2:=hb1.trans (hb2.mono hb1.size)
        have hs1:=hb1.size
        have hs2:=hb2.size
        clear hown2 hlv2 hZ hZl hb1 hb2
        go_wp2_with fail
        refine HG.out.mono ?_
        rintro e w3 ⟨Z3,rfl,hown3,hlv3,hasc3,hZ3,hb3⟩
        have hB3:Below w.heap.size w w3:=hB2.trans (hb3.mono hs1)
        have hlen3:Z3.length<=l.length+1:=by have:=congrArg List.length hZ3;simp at this;rw [this];exact Hlen.out
        have HLs:=hide (listed_any w1.heap.size (l.length+2) Z3 w3 hown3 hasc3 (by omega) (fun q hq=>by
          have hm:q.1 ∈ Z3.map (·.1):=List.mem_map_of_mem hq
          rw [hZ3] at hm
          rcases Hmem.out _ hm with h | h
          · rw [h];exact hs
          · exact (Hall.out _ h).1) (fun q hq=>by
          obtain ⟨i,hi,e⟩:=List.mem_iff_getElem.1 hq
          obtain ⟨a'',c'',e'⟩:=(hlv3.own i hi).rd.shape
          exact ⟨a'',_,c'',by rw [<- e];exact e'⟩))
        have Hlv3:=hide hlv3
        have HZ3:=hide hZ3
        have hs3:=hb3.size
        clear hown3 hlv3 hZ3 hb3 hB2 HG
        go_wp2_with fail
        refine HLs.out.mono ?_
        rintro e w4 ⟨g,cap,rfl,hrow4,hb4⟩
        have hgw:w3.heap.size<=g:=hrow4.ge g rfl
        have HO:=hide (OwnA.of_row (hrow4.mono (show w.heap.size<=w3.heap.size by omega)) ((Hlv3.out.mono (show w.heap.size<=w1.heap.size+1 by omega)).to hb4 hgw))
        rw [HZ3.out] at HO
        have HB4:=hide (hB3.trans (hb4.mono (by omega)))
        clear hrow4 hb4 hB3
        go_wp2
        go_ret2
        exact ⟨_,rfl,HO.out,HB4.out⟩
end Go.Proofs.YthehfkafcdociaaGreatDoor
