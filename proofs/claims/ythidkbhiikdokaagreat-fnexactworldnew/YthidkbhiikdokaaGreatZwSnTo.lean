/- A signature. -/
import Derived.Test.YthidkbhiikdokaaGreatZwVtEq
import Derived.Test.YthidkbhiikdokaaGreatZwSnMem
set_option maxRecDepth 20000
set_option maxHeartbeats 4000000
namespace Go.Proofs.YthidkbhiikdokaaGreat
open Go.RowKit
set_option linter.unusedVariables false
def Szd (P:Prop) (m:Nat) (w:World) (e:Ending) (w':World):Prop:=∃ r:Int,e=.returned (.int .i64 r)/\(0<=r->P/\r<=(m:Int))/\Below w.heap.size w w'
structure FewSn (p:Sn):Prop
structure FitSn (p:Sn):Prop where
  wkd:(Lit.int .i64 p.kd).wf=true
  wep:(Lit.int .i64 p.ep).wf=true
  wrd:(Lit.int .i64 p.rd).wf=true
  wwt:(Lit.int .i64 p.wt).wf=true
  zwo:p.wo.size<=maxLen
theorem eqSig_same (p:Sn) (u t:Sv) (w:World) (hr:RdSn w p u) (ht:RdSn w p t) (hf:FewSn p) :
    Calls Tryz.prog 62 #[snV p u,snV p t] w fun e w'=>e=.returned (.bool true)/\Below w.heap.size w w':=by
  obtain ⟨kd,ep,rd,wt,wo⟩:=p
  simp only [snV]
  have HB:=hide (((Below.refl _ w).alloc (Nat.le_refl _) (.cells #[.int .i64 kd,.int .i64 ep,.int .i64 rd,.int .i64 wt,.string wo] 97)).alloc (by simp) (.cells #[.int .i64 kd,.int .i64 ep,.int .i64 rd,.int .i64 wt,.string wo] 97))
  go_enter Tryz.func62,Tryz.ntmps62
  go_wp2
  go_ret
  exact ⟨rfl,HB.out⟩
theorem Tryz.infoESn:(Tryz.prog.info? 97).map (·.size)=some 5:=by kernel_rfl
theorem eqSigS_any (v1 v2:Value) (l:List Sn) (w:World) (hr1:RdSs w v1 l) (hr2:RdSs w v2 l) (hl:l.length<=4000000) (hall:∀ a ∈ l,FewSn a) :
    Calls Tryz.prog 31 #[v1,v2] w fun e w'=>e=.returned (.bool true)/\Below w.heap.size w w':=by
  obtain ⟨Z1,rfl,hr1⟩:=hr1
  obtain ⟨Z2,hZ,hr2⟩:=hr2
  have hl':Z1.length<=4000000:=by simpa using hl
  have hN2:Z2.length=Z1.length:=by have:=congrArg List.length hZ;simpa using this
  have hel:∀ i (h1:i < Z1.length) (h2:i < Z2.length),Z2[i].1=Z1[i].1:=fun i h1 h2=>by
    have:=List.getElem_of_eq hZ (show i < (Z2.map (·.1)).length by simpa using h2)
    simpa using this
  rcases hr1 with ⟨a,cap,rfl,rfl,-⟩ | ⟨b,off,cap,h0,rfl,h1,h2,h3,h4⟩
  · obtain ⟨a2,cap2,rfl⟩:=hr2.shape
    rw [hN2]
    clear hr2 hel hN2 hZ
    go_enter Tryz.func31,Tryz.ntmps31
    go_wp2
    refine wp_loop_rounds 1 ?_
    rw [rounds_succ]
    go_wp2
    go_ret
    exact ⟨rfl,Below.refl _ _⟩
  · rcases hr2 with ⟨a2,cap2,rfl,e0,-⟩ | ⟨b2,off2,cap2,g0,rfl,g1,g2,g3,g4⟩
    · subst e0;exact absurd (List.length_eq_zero_iff.1 hN2.symm) h0
    · obtain ⟨N,hN⟩:∃ N,Z1.length=N:=⟨_,rfl⟩
      rw [hN] at h1 hl' hN2 ⊢
      rw [hN2] at g1 ⊢
      have HN:=hide hN
      have HN2:=hide hN2
      have H4:=hide h4
      have G4:=hide g4
      have HA:=hide hall
      have HE:=hide hel
      have hlen:((N:Int) != (N:Int))=false:=by simp
      clear hN hN2 h4 g4 hall hel hZ hl h0 g0
      go_enter Tryz.func31,Tryz.ntmps31
      go_wp2
      go_loopw [5] (fun i wr=>∃ k:Nat,k<=N/\i=.int .i64 k/\Below w.heap.size w wr) (fun i _=>N - (intOf i).toNat)
      case atStart=>exact ⟨0,Nat.zero_le _,rfl,Below.refl _ _⟩
      case round =>
        obtain ⟨k,hk,rfl,hb⟩:=hrel
        by_cases hlt:k < N
        · have hk1:k < Z1.length:=by rw [HN.out];exact hlt
          have hk2:k < Z2.length:=by rw [HN2.out];exact hlt
          have hbD:=hb.drew
          have hS0:(fun W:World=>W.rangeAt b (off+k * 5) (snC Z1[k].1 Z1[k].2)/\W.rangeAt b2 (off2+k * 5) (snC Z2[k].1 Z2[k].2)) wr.drew:=⟨range_below (H4.out k hk1).1 hbD h3,range_below (G4.out k hk2).1 hbD g3⟩
          have HS:Hid (∀ V,Below w.heap.size w V->(V.rangeAt b (off+k * 5) (snC Z1[k].1 Z1[k].2)/\V.rangeAt b2 (off2+k * 5) (snC Z2[k].1 Z2[k].2))):=hide (fun V hV=>⟨range_below (H4.out k hk1).1 hV h3,range_below (G4.out k hk2).1 hV g3⟩)
          have HT:=hide (eqSig_same Z1[k].1 Z1[k].2 Z2[k].2 wr.drew ((H4.out k hk1).2.below hbD (Nat.le_refl _)) (by rw [<- HE.out k hk1 hk2];exact (G4.out k hk2).2.below hbD (Nat.le_refl _)) (HA.out _ (List.mem_map.2 ⟨_,List.getElem_mem hk1,rfl⟩)))
          rw [HE.out k hk1 hk2] at hS0 HS
          rw [show snV Z1[k].1 Z1[k].2=.agg (snC Z1[k].1 Z1[k].2).toArray from rfl] at HT
          have Hi1:=hide (show (Tryz.prog.info? 97).map (·.size)=some (snC Z1[k].1 Z1[k].2).length from Tryz.infoESn)
          have Hi2:=hide (show (Tryz.prog.info? 97).map (·.size)=some (snC Z1[k].1 Z2[k].2).length from Tryz.infoESn)
          have hli:(k:Int) < (N:Int):=by omega
          have hk0:(0:Int)<=(k:Int):=by omega
          have HB:=hide hb
          have HBD:=hide hbD
          clear hb hbD
          generalize snC Z1[k].1 Z1[k].2=cs at hS0 HS HT Hi1 Hi2
          go_wp2
          refine wp_region_held_drew (S:=fun W=>W.rangeAt b (off+k * 5) cs/\W.rangeAt b2 (off2+k * 5) cs) (by kernel_rfl) hS0 (fun hHeld=>?_)
          refine wpAnyH_take (i:=0) (v:=.slice (some ⟨b,off,none⟩) N cap) rfl (by kernel_rfl) (by kernel_rfl) (by kernel_rfl) (fun _ _ _ h=>h) (Or.inl ⟨by rfl,fun W hW=>by go_simp⟩) (by assumption) ?_
          change wpAnyH Tryz.prog _ _ _ _ _ _ (Act.put _ (some 17) _) _
          simp only [Act.put,List.setIfInBounds_toArray,List.set_cons_zero,List.set_cons_succ]
          refine wpAnyH_take (i:=1) (v:=.int .i64 (k:Int)) rfl (by kernel_rfl) (by kernel_rfl) (by kernel_rfl) (fun _ _ _ h=>h) (Or.inl ⟨by rfl,fun W hW=>by go_simp⟩) (by assumption) ?_
          change wpAnyH Tryz.prog _ _ _ _ _ _ (Act.put _ (some 18) _) _
          simp only [Act.put,List.setIfInBounds_toArray,List.set_cons_zero,List.set_cons_succ]
          refine wpAnyH_take (i:=2) (v:=.pointer (some ⟨b,off+k * 5,none⟩)) rfl (by kernel_rfl) (by kernel_rfl) (by kernel_rfl) (fun _ _ _ h=>h) (Or.inl ⟨by rfl,fun W hW=>by go_simp⟩) (by assumption) ?_
          change wpAnyH Tryz.prog _ _ _ _ _ _ (Act.put _ (some 19) _) _
          simp only [Act.put,List.setIfInBounds_toArray,List.set_cons_zero,List.set_cons_succ]
          refine wpAnyH_take (i:=3) (v:=.agg cs.toArray) rfl (by kernel_rfl) (by kernel_rfl) (by kernel_rfl) (fun _ _ _ h=>h) (yieldsIf_load_mid (by rfl) 97 _ rfl b (off+k * 5) rfl cs _ (fun W hW=>hW.1) Tryz.underlying97 rfl Hi1.out) (by assumption) ?_
          change wpAnyH Tryz.prog _ _ _ _ _ _ (Act.put _ (some 20) _) _
          simp only [Act.put,List.setIfInBounds_toArray,List.set_cons_zero,List.set_cons_succ]
          refine wpAnyH_take (i:=4) (v:=.slice (some ⟨b2,off2,none⟩) N cap2) rfl (by kernel_rfl) (by kernel_rfl) (by kernel_rfl) (fun _ _ _ h=>h) (Or.inl ⟨by rfl,fun W hW=>by go_simp⟩) (by assumption) ?_
          change wpAnyH Tryz.prog _ _ _ _ _ _ (Act.put _ (some 21) _) _
          simp only [Act.put,List.setIfInBounds_toArray,List.set_cons_zero,List.set_cons_succ]
          refine wpAnyH_take (i:=5) (v:=.int .i64 (k:Int)) rfl (by kernel_rfl) (by kernel_rfl) (by kernel_rfl) (fun _ _ _ h=>h) (Or.inl ⟨by rfl,fun W hW=>by go_simp⟩) (by assumption) ?_
          change wpAnyH Tryz.prog _ _ _ _ _ _ (Act.put _ (some 22) _) _
          simp only [Act.put,List.setIfInBounds_toArray,List.set_cons_zero,List.set_cons_succ]
          refine wpAnyH_take (i:=6) (v:=.pointer (some ⟨b2,off2+k * 5,none⟩)) rfl (by kernel_rfl) (by kernel_rfl) (by kernel_rfl) (fun _ _ _ h=>h) (Or.inl ⟨by rfl,fun W hW=>by go_simp⟩) (by assumption) ?_
          change wpAnyH Tryz.prog _ _ _ _ _ _ (Act.put _ (some 23) _) _
          simp only [Act.put,List.setIfInBounds_toArray,List.set_cons_zero,List.set_cons_succ]
          refine wpAnyH_take (i:=7) (v:=.agg cs.toArray) rfl (by kernel_rfl) (by kernel_rfl) (by kernel_rfl) (fun _ _ _ h=>h) (yieldsIf_load_mid (by rfl) 97 _ rfl b2 (off2+k * 5) rfl cs _ (fun W hW=>hW.2) Tryz.underlying97 rfl Hi2.out) (by assumption) ?_
          change wpAnyH Tryz.prog _ _ _ _ _ _ (Act.put _ (some 24) _) _
          simp only [Act.put,List.setIfInBounds_toArray,List.set_cons_zero,List.set_cons_succ]
          refine wpAnyH_ready (rs:=[8]) (by kernel_rfl) (by simp) ?_
          refine AllReadyH.cons rfl (fun K hK=>?_) AllReadyH.nil
          go_simp
          go_wp2_with (go_at_call 62;(with_reducible refine HT.out.mono ?_);rintro e w2 ⟨rfl,hb2⟩;have hB2:=HBD.out.trans (hb2.mono HBD.out.size);have hS2:=HS.out _ hB2)
          refine hK.out _ _ hS2 (fun hHeld=>?_)
          try simp only [Act.put,List.setIfInBounds_toArray,List.set_cons_zero,List.set_cons_succ]
          refine wpAnyH_take (i:=9) (v:=.bool false) rfl (by kernel_rfl) (by kernel_rfl) (by kernel_rfl) (fun _ _ _ h=>h) (Or.inl ⟨by rfl,fun W hW=>by go_simp⟩) (by assumption) ?_
          change wpAnyH Tryz.prog _ _ _ _ _ _ (Act.put _ (some 26) _) _
          simp only [Act.put,List.setIfInBounds_toArray,List.set_cons_zero,List.set_cons_succ]
          refine wpAnyH_done (by kernel_rfl) ?_ _
          clear hS0 hS2 hb2
          go_wp2
          go_roundw
          case rel=>exact ⟨k+1,by omega,by go_num,hB2⟩
          case measure=>simp [intOf];omega
        · go_wp2
          go_ret
          exact ⟨rfl,hb⟩
end Go.Proofs.YthidkbhiikdokaaGreat
