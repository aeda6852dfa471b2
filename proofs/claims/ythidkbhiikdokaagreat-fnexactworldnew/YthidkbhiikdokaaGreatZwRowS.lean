/- A slice of texts that came in reads as texts. -/
import Derived.Test.YthidkbhiikdokaaGreatZwLgRow
namespace Go.Proofs.YthidkbhiikdokaaGreat
open Go.RowKit
set_option linter.unusedVariables false
theorem nxs_tot:∀ (k:Nat) (l:List Ac),nxs k l<=k+4 * l.length+2 * totA l
  | k,[]=>by simp [nxs]
  | k,a :: t=>by
    have h:=nxs_tot (nx k a) t
    have e:totA (a :: t)=wgA a+totA t:=by simp [totA]
    have e2:a.2.2.2.2.length<=wgA a:=by unfold wgA;omega
    unfold nx at h
    simp only [nxs,nx,List.length_cons]
    rw [e]
    omega
theorem nxs_four:∀ (k:Nat) (l:List Ac),(∀ a ∈ l,a.2.2.2.2.length<=4)->nxs k l<=k+12 * l.length
  | k,[],_=>by simp [nxs]
  | k,a :: t,h=>by
    have h':=nxs_four (nx k a) t (fun b hb=>h b (List.mem_cons_of_mem _ hb))
    have e:=h a List.mem_cons_self
    unfold nx at h'
    simp only [nxs,nx,List.length_cons]
    omega
theorem acs_four {l:List Ac} (h:acsB l=true):∀ a ∈ l,a.2.2.2.2.length<=4:=by
  intro a ha
  obtain ⟨j,hj,rfl⟩:=List.mem_iff_getElem.1 ha
  unfold acsB at h
  rw [Bool.and_eq_true,List.all_eq_true] at h
  have:=h.1 j (List.mem_range.2 hj)
  rw [acAt_eq l j l[j] hj rfl,Bool.and_eq_true] at this
  have h2:=this.1
  unfold acB at h2
  simp only [Bool.and_eq_true,decide_eq_true_eq] at h2
  exact h2.2.2.2.2.1
theorem acs_len' {l:List Ac} (h:acsB l=true):l.length<=12:=by
  unfold acsB at h
  simp only [Bool.and_eq_true,decide_eq_true_eq] at h
  exact h.2.1
theorem lg_acs {e:Int} {l:List Ac} (h:lgB e l=true):acsB l=true:=by unfold lgB at h;rw [Bool.and_eq_true] at h;exact h.2
def IsRowS (w:World) (a:Option Addr) (len cap:Nat) (ss:List ByteArray):Prop :=
  (a=none/\len=0/\cap=0/\ss=[]) \/
  ∃ x,a=some x/\len<=cap/\cap<=maxLen/\ss.length=cap/\(∀ i,i < ss.length->w.cell? (x.add i)=some (.string (ss.getD i ByteArray.empty)))/\∀ s ∈ ss,s.size<=maxLen
theorem IsRowS.rd {w:World} {a:Option Addr} {len cap:Nat} {ss:List ByteArray} (h:IsRowS w a len cap ss):∃ l:List ByteArray,len=l.length/\RdS w (.slice a len cap) l/\l.length<=maxLen/\∀ s ∈ l,s.size<=maxLen:=by
  rcases h with ⟨rfl,rfl,rfl,rfl⟩ | ⟨x,rfl,hlc,hm,hz,hcell,hwf⟩
  · exact ⟨[],rfl,.inl ⟨_,_,rfl,rfl,fun h=>by first | rfl | cases h⟩,by simp,by simp⟩
  · by_cases h0:len=0
    · subst h0;exact ⟨[],rfl,.inl ⟨_,_,rfl,rfl,fun h=>by first | rfl | cases h⟩,by simp,by simp⟩
    · obtain ⟨b,off,spot⟩:=x
      have hc0:=hcell 0 (by omega)
      have hspot:spot=none:=by simpa [Addr.add] using World.cell?_spot hc0
      subst hspot
      have hlen:(ss.take len).length=len:=by simp;omega
      refine ⟨ss.take len,hlen.symm,.inr ⟨b,off,cap,?_,by rw [hlen],by omega,hm,?_,?_⟩,by omega,fun s hs=>hwf s (List.mem_of_mem_take hs)⟩
      · intro e;rw [e] at hlen;simp at hlen;omega
      · have:=World.block_lt_of_cell? w _ hc0;simpa [Addr.add] using this
      · intro i hi
        have hi2:i < len:=by omega
        have hi':i < ss.length:=by omega
        have hc:=hcell i hi'
        have hg:ss.getD i ByteArray.empty=ss[i]:=by rw [List.getD_eq_getElem?_getD,List.getElem?_eq_getElem hi'];rfl
        rw [hg] at hc
        have ea:(⟨b,off,none⟩:Addr).add i=⟨b,off+i,none⟩:=by
          by_cases hz:i=0
          · subst hz;simp [Addr.add]
          · simp [Addr.add,hz]
        rw [ea] at hc
        rw [hc]
        simp
end Go.Proofs.YthidkbhiikdokaaGreat
