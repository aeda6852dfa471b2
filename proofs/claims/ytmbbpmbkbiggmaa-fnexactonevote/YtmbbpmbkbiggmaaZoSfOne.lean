/- Votes of one who voted twice, plain; the landed code's book of what each one voted for. -/
import Derived.Test.YtmbbpmbkbiggmaaZoSnTo
import Derived.Test.YtmbbpmbkbiggmaaZoWdMem
import Derived.Test.YtmbbpmbkbiggmaaZoSgBook
namespace Go.Proofs.Ytmbbpmbkbiggmaa
open Go.RowKit Go.Maps
set_option linter.unusedVariables false
set_option linter.unusedSimpArgs false
def twB (a b:Sn):Bool:=decide (a.kd=1/\b.kd=1/\a.ep=b.ep/\a.rd=b.rd/\a.wo=b.wo/\a.wt ≠ b.wt)
def ovB (l:List Sn):Bool:=decide (∀ i (h:i < l.length) j (hj:j < i),twB l[i] (l[j]'(by omega))=false)
theorem tw_no {a b:Sn} (h:¬ (a.kd=1/\b.kd=1/\a.ep=b.ep/\a.rd=b.rd/\a.wo=b.wo/\a.wt ≠ b.wt)):twB a b=false:=decide_eq_false h
theorem tw_yes {a b:Sn} (h:a.kd=1/\b.kd=1/\a.ep=b.ep/\a.rd=b.rd/\a.wo=b.wo/\a.wt ≠ b.wt):twB a b=true:=decide_eq_true h
theorem ov_no {l:List Sn} {i j:Nat} (h:i < l.length) (hj:j < i) (ht:twB l[i] (l[j]'(by omega))=true):ovB l=false:=by
  unfold ovB
  refine decide_eq_false (fun e=>?_)
  rw [e i h j hj] at ht
  cases ht
theorem ov_yes {l:List Sn} (h:∀ i (h:i < l.length) j (hj:j < i),twB l[i] (l[j]'(by omega))=false):ovB l=true:=by
  unfold ovB
  exact decide_eq_true h
theorem RdSs.sf5 {w:World} {a:Option Addr} {cap n:Nat} {l:List Sn} (h:RdSs w (.slice a n cap) l) (hl:0 < l.length):∃ b off,a=some ⟨b,off,none⟩/\b < w.heap.size/\∀ i (h:i < l.length),w.rangeAt b (off+i * 5) (snC l[i] ⟨⟩):=by
  obtain ⟨Z,rfl,h⟩:=h
  rcases h with ⟨a',cap',e,rfl,hn⟩ | ⟨b,off,cap',h0,e,h1,h2,h3,h4⟩
  · simp at hl
  · simp only [Value.slice.injEq] at e
    obtain ⟨rfl,rfl,rfl⟩:=e
    refine ⟨b,off,rfl,h3,fun i hi=>?_⟩
    have hi':i < Z.length:=by simpa using hi
    simpa using (h4 i hi').1
def kS (s:Sn):Sg:=(s.kd,s.ep,s.rd,0,s.wo)
theorem kS_wf {s:Sn} (h:FitSn s):WfS (kS s):=⟨h.wkd,h.wep,h.wrd,(by decide:(Lit.int .i64 0).wf=true),h.zwo⟩
structure OvBk (l:List Sn) (k:Nat) (D:DataW Value):Prop where
  im:IsMap D
  fw:∀ j (h:j < l.length),j < k->l[j].kd=1->Maps.has D (kyS (kS l[j]))=true/\∀ z,D.atKey (kyS (kS l[j])) z=.lit (.int .i64 l[j].wt)
  bw:∀ s:Sg,WfS s->Maps.has D (kyS s)=true->∃ j,∃ h:j < l.length,j < k/\l[j].kd=1/\kS l[j]=s
  ok:∀ i (h:i < l.length),i < k->∀ j (hj:j < i),twB l[i] (l[j]'(by omega))=false
theorem OvBk.nil (l:List Sn):OvBk l 0 (.map []):=⟨⟨[],rfl⟩,fun j _ h=>by omega,fun s _ h=>by simp [has_eq] at h,fun i _ h=>by omega⟩
theorem OvBk.skip {l:List Sn} {k:Nat} {D:DataW Value} (h:OvBk l k D) (hk:k < l.length) (h1:l[k].kd ≠ 1):OvBk l (k+1) D :=
  ⟨h.im,fun j hj hjk hv=>by
    by_cases e:j=k
    · subst e;exact absurd hv h1
    · exact h.fw j hj (by omega) hv,fun s hs hh=>by
    obtain ⟨j,a,b,c⟩:=h.bw s hs hh
    exact ⟨j,a,by omega,c⟩,fun i hi hik j hj=>by
    by_cases e:i=k
    · subst e;exact tw_no (fun t=>h1 t.1)
    · exact h.ok i hi (by omega) j hj⟩
theorem OvBk.put {l:List Sn} {k:Nat} {D:DataW Value} (h:OvBk l k D) (hw:∀ q ∈ l,FitSn q) (hk:k < l.length) (h1:l[k].kd=1) (hno:∀ j (hj:j < l.length),j < k->l[j].kd=1->kS l[j]=kS l[k]->l[j].wt=l[k].wt) :
    OvBk l (k+1) (D.put (kyS (kS l[k])) (.lit (.int .i64 l[k].wt))):=by
  have wk:=kS_wf (hw _ (List.getElem_mem hk))
  have hky:=ky_key wk
  refine ⟨?_,fun j hj hjk hv=>?_,fun s hs hh=>?_,fun i hi hik j hj=>?_⟩
  · obtain ⟨es,rfl⟩:=h.im
    exact ⟨_,rfl⟩
  · by_cases e:kS l[j]=kS l[k]
    · rw [e]
      refine ⟨has_put_same h.im hky _,fun z=>?_⟩
      rw [atKey_put_same h.im hky]
      by_cases ejk:j=k
      · subst ejk;rfl
      · rw [hno j hj (by omega) hv e]
    · have hne:kyS (kS l[j]) ≠ kyS (kS l[k]):=fun t=>e (ky_inj (kS_wf (hw _ (List.getElem_mem hj))) wk t)
      have hjk':j ≠ k:=fun t=>e (by subst t;rfl)
      obtain ⟨a,b⟩:=h.fw j hj (by omega) hv
      exact ⟨by rw [has_put_other hne];exact a,fun z=>by rw [atKey_put_other hne];exact b z⟩
  · by_cases e:s=kS l[k]
    · exact ⟨k,hk,by omega,h1,e.symm⟩
    · have hne:kyS s ≠ kyS (kS l[k]):=fun t=>e (ky_inj hs wk t)
      rw [has_put_other hne] at hh
      obtain ⟨j,a,b,c⟩:=h.bw s hs hh
      exact ⟨j,a,by omega,c⟩
  · by_cases e:i=k
    · subst e
      refine tw_no (fun t=>t.2.2.2.2.2 ?_)
      exact (hno j (by omega) hj t.2.1 (by unfold kS;rw [t.1,t.2.1,t.2.2.1,t.2.2.2.1,t.2.2.2.2.1])).symm
    · exact h.ok i hi (by omega) j hj
theorem OvBk.new {l:List Sn} {k:Nat} {D:DataW Value} (h:OvBk l k D) (hw:∀ q ∈ l,FitSn q) (hk:k < l.length) (h1:l[k].kd=1) (hh:Maps.has D (kyS (kS l[k]))=false) :
    OvBk l (k+1) (D.put (kyS (kS l[k])) (.lit (.int .i64 l[k].wt))):=h.put hw hk h1 (fun j hj hjk hv e=>by
  have:=(h.fw j hj hjk hv).1
  rw [e,hh] at this
  cases this)
theorem OvBk.there {l:List Sn} {k:Nat} {D:DataW Value} (h:OvBk l k D) (hw:∀ q ∈ l,FitSn q) (hk:k < l.length) (h1:l[k].kd=1) (hh:Maps.has D (kyS (kS l[k]))=true) :
    ∃ c:Int,(∀ z,D.atKey (kyS (kS l[k])) z=.lit (.int .i64 c))/\(c=l[k].wt->OvBk l (k+1) (D.put (kyS (kS l[k])) (.lit (.int .i64 l[k].wt))))/\(c ≠ l[k].wt->ovB l=false):=by
  obtain ⟨j,hj,hjk,hv,e⟩:=h.bw _ (kS_wf (hw _ (List.getElem_mem hk))) hh
  obtain ⟨-,a⟩:=h.fw j hj hjk hv
  rw [e] at a
  refine ⟨l[j].wt,a,fun hc=>h.put hw hk h1 (fun i hi hik hvi ei=>?_),fun hc=>?_⟩
  · obtain ⟨-,b⟩:=h.fw i hi hik hvi
    rw [ei] at b
    have:=(b .nil).symm.trans (a .nil)
    simp only [DataW.lit.injEq,Lit.int.injEq,true_and] at this
    rw [this,hc]
  · have e1:l[j].ep=l[k].ep:=congrArg (fun s:Sg=>s.2.1) e
    have e2:l[j].rd=l[k].rd:=congrArg (fun s:Sg=>s.2.2.1) e
    have e3:l[j].wo=l[k].wo:=congrArg (fun s:Sg=>s.2.2.2.2) e
    exact ov_no hk hjk (tw_yes ⟨h1,hv,e1.symm,e2.symm,e3.symm,fun t=>hc t.symm⟩)
theorem OvBk.all {l:List Sn} {D:DataW Value} (h:OvBk l l.length D):ovB l=true:=ov_yes (fun i hi j hj=>h.ok i hi hi j hj)
end Go.Proofs.Ytmbbpmbkbiggmaa
