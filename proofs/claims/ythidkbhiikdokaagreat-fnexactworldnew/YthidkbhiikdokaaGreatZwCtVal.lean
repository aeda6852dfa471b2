/- A certificate of leavings by value. -/
import Derived.Test.YthidkbhiikdokaaGreatZwNdNil
set_option maxRecDepth 20000
set_option maxHeartbeats 1000000
namespace Go.Proofs.YthidkbhiikdokaaGreat
open Go.RowKit
set_option linter.unusedVariables false
theorem int_ne {a b:Int} (h:a ≠ b):(a != b)=true:=by rw [bne_iff_ne];exact h
def RdI (w:World) (v:Value) (l:List Int):Prop :=
  (∃ a cap,v=.slice a 0 cap/\l=[]/\(a=none->cap=0)) \/
  ∃ b off cap,l ≠ []/\v=.slice (some ⟨b,off,none⟩) l.length cap/\l.length<=cap/\cap<=maxLen/\b < w.heap.size/\∀ i (h:i < l.length),w.cell? ⟨b,off+i,none⟩=some (.int .i64 l[i])
theorem RdI.shape {w:World} {v:Value} {l:List Int} (h:RdI w v l):∃ a cap,v=.slice a l.length cap:=by
  rcases h with ⟨a,cap,rfl,rfl,-⟩ | ⟨b,off,cap,h0,rfl,_⟩
  · exact ⟨a,cap,rfl⟩
  · exact ⟨_,cap,rfl⟩
theorem RdI.below {B:Nat} {w w':World} {v:Value} {l:List Int} (h:RdI w v l) (hb:Below B w w') (hB:w.heap.size<=B):RdI w' v l:=by
  rcases h with h | ⟨b,off,cap,h0,hv,h1,h2,h3,h4⟩
  · exact .inl h
  · exact .inr ⟨b,off,cap,h0,hv,h1,h2,by have:=hb.size;omega,fun i hi=>(hb.cell (p:=⟨b,off+i,none⟩) (by show b < B;omega)).trans (h4 i hi)⟩
def OwnI (base:Nat) (w:World) (v:Value) (l:List Int):Prop:=w.ownsRow base 3 1 v l.length (l.map (Value.int .i64))
theorem OwnI.rd {base:Nat} {w:World} {v:Value} {l:List Int} (h:OwnI base w v l):RdI w v l:=by
  rcases h.2 with ⟨hv,hn⟩ | ⟨g,cap,cur,hv,hb,hg,hnc,hcm,hcs,ht⟩
  · exact .inl ⟨none,0,hv,List.length_eq_zero_iff.1 hn,fun _=>rfl⟩
  · by_cases hl:l=[]
    · subst hl;exact .inl ⟨_,_,hv,rfl,fun h=>by cases h⟩
    · refine .inr ⟨g,0,cap,hl,hv,hnc,hcm,?_,?_⟩
      · exact (Array.getElem?_eq_some_iff.1 hg).1
      · intro i hi
        have h':w.ownsRow base 3 1 (.slice (some ⟨g,0,none⟩) l.length cap) l.length (l.map (Value.int .i64)):=hv ▸ h
        rw [show 0+i=i from by omega,h'.cellAt i (by omega)]
        simp [hi]
theorem eqIntS_any (v1 v2:Value) (l1 l2:List Int) (w:World) (hr1:RdI w v1 l1) (hr2:RdI w v2 l2) (hl1:l1.length<=4000000) (hl2:l2.length<=4000000) :
    Calls Tryz.prog 93 #[v1,v2] w fun e w'=>e=.returned (.bool (decide (l1=l2)))/\Sm w w':=by
  by_cases hne:l1.length=l2.length
  · rcases hr1 with ⟨a,cap,rfl,rfl,-⟩ | ⟨b,off,cap,h0,rfl,h1,h2,h3,h4⟩
    · have e2:l2=[]:=List.length_eq_zero_iff.1 (by simpa using hne.symm)
      subst e2
      obtain ⟨a2,cap2,rfl⟩:=hr2.shape
      clear hr2
      go_enter Tryz.func93,Tryz.ntmps93
      go_wp2
      refine wp_loop_rounds 1 ?_
      rw [rounds_succ]
      go_wp2
      go_ret
      exact ⟨rfl,Sm.refl _⟩
    · rcases hr2 with ⟨a2,cap2,rfl,rfl,-⟩ | ⟨b2,off2,cap2,g0,rfl,g1,g2,g3,g4⟩
      · exact absurd (List.length_eq_zero_iff.1 (by simpa using hne)) h0
      · have Hne:=hide hne
        have hlen:((l1.length:Int) != (l2.length:Int))=false:=by rw [hne];simp
        have hle:l1.length<=l2.length:=by omega
        have hge:l2.length<=l1.length:=by omega
        have H4:=hide h4
        have G4:=hide g4
        clear hne h4 g4
        go_enter Tryz.func93,Tryz.ntmps93
        go_wp2
        go_loopw [5] (fun i wr=>∃ k:Nat,k<=l1.length/\i=.int .i64 k/\l1.take k=l2.take k/\Sm w wr) (fun i _=>l1.length - (intOf i).toNat)
        case atStart=>exact ⟨0,Nat.zero_le _,rfl,rfl,Sm.refl _⟩
        case round =>
          obtain ⟨k,hk,rfl,ht,hs⟩:=hrel
          have Ht:=hide ht
          clear ht
          by_cases hlt:k < l1.length
          · have hlt2:k < l2.length:=by omega
            have hc1:wr.cell? ⟨b,off+k,none⟩=some (.int .i64 l1[k]):=(hs.cell _).trans (H4.out k hlt)
            have hc2:wr.cell? ⟨b2,off2+k,none⟩=some (.int .i64 l2[k]):=(hs.cell _).trans (G4.out k hlt2)
            have hli:(k:Int) < (l1.length:Int):=by omega
            have hli2:(k:Int) < (l2.length:Int):=by omega
            by_cases he:l1[k]=l2[k]
            · have Hnx:=hide (take_eq_snoc hlt hlt2 Ht.out he)
              rw [<- he] at hc2
              clear he
              generalize l1[k]=s1 at hc1 hc2
              go_wp2
              go_quiet (fail)
              go_wp2
              go_roundw
              case rel=>exact ⟨k+1,by omega,by go_num,Hnx.out,hs.drewN _⟩
              case measure=>simp [intOf];omega
            · have hf:Hid (decide (l1=l2)=false):=hide (by rw [decide_eq_false];intro e;subst e;exact he rfl)
              have hq:=int_ne he
              clear he
              generalize l1[k]=s1 at hc1 hq
              generalize l2[k]=s2 at hc2 hq
              go_wp2
              go_quiet (fail)
              go_wp2
              go_ret
              exact ⟨ret_bool hf.out.symm,hs.drewN _⟩
          · have hf:Hid (decide (l1=l2)=true):=hide (by
              rw [decide_eq_true]
              have:=Ht.out
              rwa [List.take_of_length_le (by omega),List.take_of_length_le (by omega)] at this)
            go_wp2
            go_ret
            exact ⟨ret_bool hf.out.symm,hs⟩
  · obtain ⟨a,cap,rfl⟩:=hr1.shape
    obtain ⟨a2,cap2,rfl⟩:=hr2.shape
    clear hr1 hr2
    have hlen:((l1.length:Int) != (l2.length:Int))=true:=by rw [bne_iff_ne];omega
    have hf:Hid (decide (l1=l2)=false):=hide (by rw [decide_eq_false];intro e;subst e;exact hne rfl)
    clear hne
    go_enter Tryz.func93,Tryz.ntmps93
    go_wp2
    go_ret
    exact ⟨ret_bool hf.out.symm,Sm.refl _⟩
def tcV (r:Int) (vw vh:Value):Value:=.agg #[.int .i64 r,vw,vh]
theorem Blk.setC {W:World} {B:Nat} {t:TypeId} {cs:List Value} (h:Blk W B t cs) (j:Nat) (u:Value):Blk (W.setCell ⟨B,j,none⟩ u) B t (cs.set j u):=by
  have e:=heap_setCell_same W B j cs.toArray t u h
  simpa [Blk] using e
theorem eqTc_any (r:Int) (vw1 vh1 vw2 vh2:Value) (ws:List ByteArray) (hs:List Int) (w:World) (h1:RdS w vw1 ws) (h2:RdI w vh1 hs) (h3:RdS w vw2 ws) (h4:RdI w vh2 hs) (hlw:ws.length<=4000000) (hlh:hs.length<=4000000) :
    Calls Tryz.prog 90 #[tcV r vw1 vh1,tcV r vw2 vh2] w fun en w'=>en=.returned (.bool true)/\Below w.heap.size w w':=by
  obtain ⟨a1,c1,rfl⟩:=h1.shape
  obtain ⟨a2,c2,rfl⟩:=h2.shape
  obtain ⟨a3,c3,rfl⟩:=h3.shape
  obtain ⟨a4,c4,rfl⟩:=h4.shape
  simp only [tcV] at *
  obtain ⟨w2,hw2⟩:∃ w2,(w.alloc (.cells #[.int .i64 r,.slice a1 ws.length c1,.slice a2 hs.length c2] 59)).alloc (.cells #[.int .i64 r,.slice a3 ws.length c3,.slice a4 hs.length c4] 59)=w2:=⟨_,rfl⟩
  have hb2:Below w.heap.size w w2:=by rw [<- hw2];exact ((Below.refl _ w).alloc (Nat.le_refl _) _).alloc (by simp) _
  have kA:Blk w2 w.heap.size 59 [.int .i64 r,.slice a1 ws.length c1,.slice a2 hs.length c2]:=by
    rw [<- hw2]
    exact (Blk.new w 59 [.int .i64 r,.slice a1 ws.length c1,.slice a2 hs.length c2]).below ((Below.refl (w.heap.size+1) _).alloc (by simp) _) (by omega)
  have kB:Blk w2 (w.heap.size+1) 59 [.int .i64 r,.slice a3 ws.length c3,.slice a4 hs.length c4]:=by
    rw [<- hw2]
    have h:=Blk.new (w.alloc (.cells #[.int .i64 r,.slice a1 ws.length c1,.slice a2 hs.length c2] 59)) 59 [.int .i64 r,.slice a3 ws.length c3,.slice a4 hs.length c4]
    simp only [World.size_alloc] at h
    exact h
  have HE:=hide (eqStringS_any _ _ ws ws w2 (h1.below hb2 (Nat.le_refl _)) (h3.below hb2 (Nat.le_refl _)) hlw hlw)
  rw [decide_eq_true rfl] at HE
  have HF:=hide (fun V (hb:Below w.heap.size w V)=>eqIntS_any (.slice a2 hs.length c2) (.slice a4 hs.length c4) hs hs V (h2.below hb (Nat.le_refl _)) (h4.below hb (Nat.le_refl _)) hlh hlh)
  rw [decide_eq_true rfl] at HF
  have x0:=kA.cell 0
  have x1:=kA.cell 1
  have x2:=kA.cell 2
  have y0:=kB.cell 0
  have y1:=kB.cell 1
  have y2:=kB.cell 2
  simp only [List.getElem?_cons_zero,List.getElem?_cons_succ] at x0 x1 x2 y0 y1 y2
  clear h1 h2 h3 h4
  go_enter Tryz.func90,Tryz.ntmps90
  go_wp2_with fail
  refine HE.out.mono ?_
  rintro en w3 ⟨rfl,hb3⟩
  have kA3:=kA.below (hb3 w2.heap.size) kA.lt
  have kB3:=kB.below (hb3 w2.heap.size) kB.lt
  have hB3:=hb2.trans (hb3 w.heap.size)
  have u2:=kA3.cell 2
  have z2:=kB3.cell 2
  simp only [List.getElem?_cons_zero,List.getElem?_cons_succ] at u2 z2
  clear x0 x1 x2 y0 y1 y2 kA kB kA3 kB3 hb3
  go_wp2_with fail
  refine (HF.out _ hB3).mono ?_
  rintro en w4 ⟨rfl,hb4⟩
  have hB4:=hB3.trans (hb4 w.heap.size)
  go_wp2
  go_ret
  exact ⟨rfl,hB4⟩
def highI (hs:List Int):Int:=hs.foldl (fun n x=>if n < x then x else n) 0
end Go.Proofs.YthidkbhiikdokaaGreat
