/- What a right set weighs; the beginning of a row of blocks. -/
import Derived.Test.YtaidhenkijjcfaaGreatZrBkPuts
set_option maxRecDepth 20000
namespace Go.Proofs.YtaidhenkijjcfaaGreat
open Go.RowKit
set_option linter.unusedVariables false
theorem implJust17_any (n r:Int) (w:World) (hr:-9223372036854775807<=r/\r<=9223372036854775807) :
    Calls Tryz.prog 100 #[.int .i64 n,.int .i64 r] w fun e w'=>e=.returned (.bool (decide (n=r - 1)))/\w'=w:=by
  have ew:IntKind.i64.wrap (r - 1)=r - 1:=by rw [IntKind.wrap_i64];omega
  by_cases h1:n < r
  · by_cases h2:n=r - 1
    · have HX:Hid (decide (n=r - 1)=true):=hide (decide_eq_true h2)
      have h2b:(n == r - 1)=true:=by rw [h2];simp
      clear h2
      go_enter Tryz.func100,Tryz.ntmps100
      go_wp2
      go_ret
      exact ⟨ret_bool HX.out.symm,rfl⟩
    · have HX:Hid (decide (n=r - 1)=false):=hide (decide_eq_false h2)
      have h2b:(n == r - 1)=false:=by rw [beq_eq_false_iff_ne];exact h2
      clear h2
      go_enter Tryz.func100,Tryz.ntmps100
      go_wp2
      go_ret
      exact ⟨ret_bool HX.out.symm,rfl⟩
  · have HX:Hid (decide (n=r - 1)=false):=hide (decide_eq_false (by omega))
    go_enter Tryz.func100,Tryz.ntmps100
    go_wp2
    go_ret
    exact ⟨ret_bool HX.out.symm,rfl⟩
theorem sum_bdC (f:Vl->Int):∀ (l:List Vl) (s:Int),(∀ p ∈ l,0<=f p/\f p<=1000001)->0<=s->s+1000001 * l.length<=1000000000->0<=l.foldl (fun s p=>wrap64 (s+f p)) s/\l.foldl (fun s p=>wrap64 (s+f p)) s<=s+1000001 * l.length
  | [],s,_,h0,_=>by simp;omega
  | p :: l,s,h,h0,h1=>by
    have h2:=h p (List.mem_cons_self)
    rw [List.length_cons] at h1 ⊢
    have hw:wrap64 (s+f p)=s+f p:=by unfold wrap64;omega
    rw [List.foldl_cons,hw]
    have h3:=sum_bdC f l (s+f p) (fun q hq=>h q (List.mem_cons_of_mem _ hq)) (by omega) (by omega)
    omega
theorem set_modC {l:List Vl} (h:(decide (l.length=0) || setB l)=true):ModV l:=by
  have hl:l.length<=12/\∀ p ∈ l,0<=p.2/\p.2<=1000001:=by
    rcases Bool.or_eq_true _ _ ▸ h with h | h
    · have e:l=[]:=List.length_eq_zero_iff.1 (of_decide_eq_true h)
      subst e
      exact ⟨by simp,by simp⟩
    · unfold setB at h
      rw [Bool.and_eq_true,List.all_eq_true] at h
      have h2:=h.2
      unfold inB at h2
      rw [decide_eq_true_eq] at h2
      refine ⟨by omega,fun p hp=>?_⟩
      obtain ⟨i,hi,rfl⟩:=List.mem_iff_getElem.1 hp
      have h3:=h.1 i (List.mem_range.2 hi)
      unfold vlAt valB inB at h3
      rw [Bool.and_eq_true,Bool.and_eq_true,decide_eq_true_eq] at h3
      have h4:=h3.1.2
      rw [List.getD_eq_getElem?_getD,List.getElem?_eq_getElem hi] at h4
      simp only [Option.getD_some] at h4
      omega
  have h1:∀ f:Vl->Int,(∀ p ∈ l,0<=f p/\f p<=1000001)->0<=sumV f l/\sumV f l<=1000000000:=fun f hf=>by
    have:=sum_bdC f l 0 hf (by omega) (by omega)
    unfold sumV
    omega
  refine ⟨h1 _ (fun p hp=>hl.2 p hp),fun ns=>h1 _ (fun p hp=>?_)⟩
  have:=hl.2 p hp
  unfold wtN
  split <;> omega
theorem RdKs.takeC {w:World} {a:Option Addr} {cap:Nat} {l:List Bk} (h:RdKs w (.slice a l.length cap) l) (k:Nat) (hk:k<=l.length):RdKs w (.slice a k cap) (l.take k):=by
  rcases h with ⟨a',cap',e,rfl,hn⟩ | ⟨b,off,cap',h0,e,h1,h2,h3,h4⟩
  · simp only [Value.slice.injEq] at e
    obtain ⟨rfl,-,rfl⟩:=e
    obtain rfl:k=0:=by simpa using hk
    exact .inl ⟨_,_,rfl,rfl,hn⟩
  · simp only [Value.slice.injEq] at e
    obtain ⟨rfl,-,rfl⟩:=e
    by_cases hz:k=0
    · subst hz;exact .inl ⟨_,_,rfl,by simp,fun h=>by cases h⟩
    · have hl:(l.take k).length=k:=by simp;omega
      refine .inr ⟨b,off,cap,?_,by rw [hl],by omega,h2,h3,fun i hi=>?_⟩
      · intro e;rw [e] at hl;simp at hl;omega
      · rw [hl] at hi
        obtain ⟨bv,p,q⟩:=h4 i (by omega)
        exact ⟨bv,by simpa using p,by simpa using q⟩
end Go.Proofs.YtaidhenkijjcfaaGreat
