/- Orders by value. -/
import Derived.Test.YtfdbedenlbikgaaZoCtSpec
import Derived.Lib.QuietBelow
set_option maxRecDepth 20000
set_option maxHeartbeats 1000000
namespace Go.Proofs.Ytfdbedenlbikgaa
open Go.RowKit Go.Sort
set_option linter.unusedVariables false
def noneB (r:Int) (ws:List ByteArray) (hs:List Int):Bool:=decide (r=0) && (decide (ws.length=0) && decide (hs.length=0))
def hisB (r:Int) (hs:List Int):Bool:=hs.all (fun h=>inB h 0 (r - 1))
def tcB (l:List Vl) (r:Int) (ws:List ByteArray) (hs:List Int):Bool:=noneB r ws hs || (inB r 1 10000 && (allV l ws && (quoB l ws && (decide (hs.length=ws.length) && hisB r hs))))
theorem RdI.at {w:World} {a:Option Addr} {cap k:Nat} {l:List Int} (h:RdI w (.slice a l.length cap) l) (hk:k < l.length) :
    ∃ b off,a=some ⟨b,off,none⟩/\l.length<=cap/\cap<=maxLen/\b < w.heap.size/\w.cell? ⟨b,off+k,none⟩=some (.int .i64 l[k]):=by
  rcases h with ⟨a',cap',e,rfl,-⟩ | ⟨b,off,cap',h0,e,h1,h2,h3,h4⟩
  · simp at hk
  · simp only [Value.slice.injEq] at e
    obtain ⟨rfl,-,rfl⟩:=e
    exact ⟨b,off,rfl,h1,h2,h3,h4 k hk⟩
end Go.Proofs.Ytfdbedenlbikgaa
namespace Go.Proofs.Ytfdbedenlbikgaa
open Go.RowKit
set_option linter.unusedVariables false
abbrev Tx5:=Int × ByteArray × ByteArray × Int × Int
def txV (t:Tx5):Value:=.agg #[.int .i64 t.1,.string t.2.1,.string t.2.2.1,.int .i64 t.2.2.2.1,.int .i64 t.2.2.2.2]
def txB (t:Tx5):Bool:=nmB t.2.1 && (inB t.2.2.2.1 1 1000000 && (inB t.2.2.2.2 0 10000 && (if t.1=1 then nmB t.2.2.1 else (inB t.1 2 3 && decide (t.2.2.1=ByteArray.empty)))))
def lessT (a b:Tx5):Bool :=
  if a.2.1 ≠ b.2.1 then Op.bytesLess a.2.1.toList b.2.1.toList
  else if a.2.2.2.2 ≠ b.2.2.2.2 then decide (a.2.2.2.2 < b.2.2.2.2)
  else if a.1 ≠ b.1 then decide (a.1 < b.1)
  else if a.2.2.1 ≠ b.2.2.1 then Op.bytesLess a.2.2.1.toList b.2.2.1.toList
  else decide (a.2.2.2.1 < b.2.2.2.1)
theorem toTx_any (t:Tx5) (w:World):Calls Try.prog 87 #[txV t] w fun e w'=>e=.returned (txV t)/\Below w.heap.size w w':=by
  obtain ⟨k,f,tO,am,no⟩:=t
  simp only [txV]
  go_enter Try.func87,Try.ntmps87
  go_wp2
  refine bodyPost_ret (v:=.agg #[.int .i64 k,.string f,.string tO,.int .i64 am,.int .i64 no]) (by simp [results,Try.f87,go_sem]) rfl ?_
  exact ⟨rfl,((((Below.refl _ w).alloc (Nat.le_refl _) _).alloc (by simp) _).alloc (by simp;omega) _)⟩
theorem eqTx_any (a b:Tx5) (w:World):Calls Try.prog 91 #[txV a,txV b] w fun e w'=>e=.returned (.bool (decide (a=b)))/\Below w.heap.size w w':=by
  obtain ⟨k1,f1,t1,m1,n1⟩:=a
  obtain ⟨k2,f2,t2,m2,n2⟩:=b
  simp only [txV]
  have HB:=hide (((Below.refl _ w).alloc (Nat.le_refl _) (.cells #[.int .i64 k1,.string f1,.string t1,.int .i64 m1,.int .i64 n1] 171)).alloc (by simp) (.cells #[.int .i64 k2,.string f2,.string t2,.int .i64 m2,.int .i64 n2] 171))
  by_cases h1:k1=k2
  · by_cases h2:f1=f2
    · by_cases h3:t1=t2
      · by_cases h4:m1=m2
        · by_cases h5:n1=n2
          · subst h1 h2 h3 h4 h5
            have Hd:Hid (decide (((k1,f1,t1,m1,n1):Tx5)=(k1,f1,t1,m1,n1))=true):=hide (by simp)
            go_enter Try.func91,Try.ntmps91
            go_wp2
            go_ret
            exact ⟨ret_bool Hd.out.symm,HB.out⟩
          · subst h1 h2 h3 h4
            have Hd:Hid (decide (((k1,f1,t1,m1,n1):Tx5)=(k1,f1,t1,m1,n2))=false):=hide (by simp [h5])
            have hq:(n1 != n2)=true:=by rw [bne_iff_ne];exact h5
            clear h5
            go_enter Try.func91,Try.ntmps91
            go_wp2
            go_ret
            exact ⟨ret_bool Hd.out.symm,HB.out⟩
        · subst h1 h2 h3
          have Hd:Hid (decide (((k1,f1,t1,m1,n1):Tx5)=(k1,f1,t1,m2,n2))=false):=hide (by simp [h4])
          have hq:(m1 != m2)=true:=by rw [bne_iff_ne];exact h4
          clear h4
          go_enter Try.func91,Try.ntmps91
          go_wp2
          go_ret
          exact ⟨ret_bool Hd.out.symm,HB.out⟩
      · subst h1 h2
        have Hd:Hid (decide (((k1,f1,t1,m1,n1):Tx5)=(k1,f1,t2,m2,n2))=false):=hide (by simp [h3])
        have hq:=bytes_ne h3
        clear h3
        go_enter Try.func91,Try.ntmps91
        go_wp2
        go_ret
        exact ⟨ret_bool Hd.out.symm,HB.out⟩
    · subst h1
      have Hd:Hid (decide (((k1,f1,t1,m1,n1):Tx5)=(k1,f2,t2,m2,n2))=false):=hide (by simp [h2])
      have hq:=bytes_ne h2
      clear h2
      go_enter Try.func91,Try.ntmps91
      go_wp2
      go_ret
      exact ⟨ret_bool Hd.out.symm,HB.out⟩
  · have Hd:Hid (decide (((k1,f1,t1,m1,n1):Tx5)=(k2,f2,t2,m2,n2))=false):=hide (by simp [h1])
    have hq:(k1 != k2)=true:=by rw [bne_iff_ne];exact h1
    clear h1
    go_enter Try.func91,Try.ntmps91
    go_wp2
    go_ret
    exact ⟨ret_bool Hd.out.symm,HB.out⟩
def szT (t:Tx5) (m:Int):Int:=if m - t.2.1.size < 0 then -1 else if m - t.2.1.size - t.2.2.1.size < 0 then -1 else m - t.2.1.size - t.2.2.1.size
theorem szTx_any (t:Tx5) (m:Int) (w:World) (hm0:0<=m) (hm:m<=100000000) (hn:t.2.1.size<=9223372036854775807) (hl:t.2.2.1.size<=9223372036854775807) :
    Calls Try.prog 83 #[txV t,.int .i64 m] w fun e w'=>e=.returned (.int .i64 (szT t m))/\Below w.heap.size w w':=by
  obtain ⟨k1,f1,t1,m1,n1⟩:=t
  have HB:=hide ((Below.refl _ w).alloc (Nat.le_refl _) (.cells #[.int .i64 k1,.string f1,.string t1,.int .i64 m1,.int .i64 n1] 164))
  simp only [txV] at *
  have w1:IntKind.i64.wrap (m - (f1.size:Int))=m - f1.size:=by rw [IntKind.wrap_i64];omega
  by_cases h1:m - (f1.size:Int) < 0
  · have Hs:Hid (szT (k1,f1,t1,m1,n1) m=-1):=hide (by unfold szT;rw [if_pos h1])
    go_enter Try.func83,Try.ntmps83
    go_wp2
    go_ret
    exact ⟨ret_int Hs.out.symm,HB.out⟩
  · have w2:IntKind.i64.wrap (m - (f1.size:Int) - (t1.size:Int))=m - f1.size - t1.size:=by rw [IntKind.wrap_i64];omega
    by_cases h2:m - (f1.size:Int) - (t1.size:Int) < 0
    · have Hs:Hid (szT (k1,f1,t1,m1,n1) m=-1):=hide (by unfold szT;rw [if_neg h1,if_pos h2])
      go_enter Try.func83,Try.ntmps83
      go_wp2
      go_ret
      exact ⟨ret_int Hs.out.symm,HB.out⟩
    · have Hs:Hid (szT (k1,f1,t1,m1,n1) m=m - f1.size - t1.size):=hide (by unfold szT;rw [if_neg h1,if_neg h2])
      go_enter Try.func83,Try.ntmps83
      go_wp2
      go_ret
      exact ⟨ret_int Hs.out.symm,HB.out⟩
end Go.Proofs.Ytfdbedenlbikgaa
