/- Orders by value. -/
import Derived.Test.YthidkbhiikdokaaGreatZwCtSpec
set_option maxRecDepth 20000
set_option maxHeartbeats 1000000
namespace Go.Proofs.YthidkbhiikdokaaGreat
open Go.RowKit Go.Sort
set_option linter.unusedVariables false
def noneB (r:Int) (ws:List ByteArray) (hs:List Int):Bool:=decide (r=0) && (decide (ws.length=0) && decide (hs.length=0))
def hisB (r:Int) (hs:List Int):Bool:=hs.all (fun h=>inB h 0 (r - 1))
def tcB (l:List Vl) (r:Int) (ws:List ByteArray) (hs:List Int):Bool:=noneB r ws hs || (inB r 1 10000 && (allV l ws && (quoB l ws && (decide (hs.length=ws.length) && hisB r hs))))
end Go.Proofs.YthidkbhiikdokaaGreat
namespace Go.Proofs.YthidkbhiikdokaaGreat
open Go.RowKit
set_option linter.unusedVariables false
abbrev Tx5:=Int × ByteArray × ByteArray × Int × Int
def txV (t:Tx5):Value:=.agg #[.int .i64 t.1,.string t.2.1,.string t.2.2.1,.int .i64 t.2.2.2.1,.int .i64 t.2.2.2.2]
def txB (t:Tx5):Bool:=nmB t.2.1 && (inB t.2.2.2.1 1 1000000 && (inB t.2.2.2.2 0 10000 && (if t.1=1 then nmB t.2.2.1 else (inB t.1 2 3 && decide (t.2.2.1=ByteArray.empty)))))
def lessT (a b:Tx5):Bool :=
  if a.2.1 ≠ b.2.1 then Op.bytesLess a.2.1.toList b.2.1.toList
  else if a.2.2.2.2 ≠ b.2.2.2.2 then decide (a.2.2.2.2 < b.2.2.2.2)
  else if a.1 ≠ b.1 then decide (a.1 < b.1)
  else if a.2.2.1 ≠ b.2.2.1 then Op.bytesLess a.2.2.1.toList b.2.2.1.toList
  else decide (a.2.2.2.1 < b.2.2.2.1)
theorem eqTx_any (a b:Tx5) (w:World):Calls Tryz.prog 104 #[txV a,txV b] w fun e w'=>e=.returned (.bool (decide (a=b)))/\Below w.heap.size w w':=by
  obtain ⟨k1,f1,t1,m1,n1⟩:=a
  obtain ⟨k2,f2,t2,m2,n2⟩:=b
  simp only [txV]
  have HB:=hide (((Below.refl _ w).alloc (Nat.le_refl _) (.cells #[.int .i64 k1,.string f1,.string t1,.int .i64 m1,.int .i64 n1] 137)).alloc (by simp) (.cells #[.int .i64 k2,.string f2,.string t2,.int .i64 m2,.int .i64 n2] 137))
  by_cases h1:k1=k2
  · by_cases h2:f1=f2
    · by_cases h3:t1=t2
      · by_cases h4:m1=m2
        · by_cases h5:n1=n2
          · subst h1 h2 h3 h4 h5
            have Hd:Hid (decide (((k1,f1,t1,m1,n1):Tx5)=(k1,f1,t1,m1,n1))=true):=hide (by simp)
            go_enter Tryz.func104,Tryz.ntmps104
            go_wp2
            go_ret
            exact ⟨ret_bool Hd.out.symm,HB.out⟩
          · subst h1 h2 h3 h4
            have Hd:Hid (decide (((k1,f1,t1,m1,n1):Tx5)=(k1,f1,t1,m1,n2))=false):=hide (by simp [h5])
            have hq:(n1 != n2)=true:=by rw [bne_iff_ne];exact h5
            clear h5
            go_enter Tryz.func104,Tryz.ntmps104
            go_wp2
            go_ret
            exact ⟨ret_bool Hd.out.symm,HB.out⟩
        · subst h1 h2 h3
          have Hd:Hid (decide (((k1,f1,t1,m1,n1):Tx5)=(k1,f1,t1,m2,n2))=false):=hide (by simp [h4])
          have hq:(m1 != m2)=true:=by rw [bne_iff_ne];exact h4
          clear h4
          go_enter Tryz.func104,Tryz.ntmps104
          go_wp2
          go_ret
          exact ⟨ret_bool Hd.out.symm,HB.out⟩
      · subst h1 h2
        have Hd:Hid (decide (((k1,f1,t1,m1,n1):Tx5)=(k1,f1,t2,m2,n2))=false):=hide (by simp [h3])
        have hq:=bytes_ne h3
        clear h3
        go_enter Tryz.func104,Tryz.ntmps104
        go_wp2
        go_ret
        exact ⟨ret_bool Hd.out.symm,HB.out⟩
    · subst h1
      have Hd:Hid (decide (((k1,f1,t1,m1,n1):Tx5)=(k1,f2,t2,m2,n2))=false):=hide (by simp [h2])
      have hq:=bytes_ne h2
      clear h2
      go_enter Tryz.func104,Tryz.ntmps104
      go_wp2
      go_ret
      exact ⟨ret_bool Hd.out.symm,HB.out⟩
  · have Hd:Hid (decide (((k1,f1,t1,m1,n1):Tx5)=(k2,f2,t2,m2,n2))=false):=hide (by simp [h1])
    have hq:(k1 != k2)=true:=by rw [bne_iff_ne];exact h1
    clear h1
    go_enter Tryz.func104,Tryz.ntmps104
    go_wp2
    go_ret
    exact ⟨ret_bool Hd.out.symm,HB.out⟩
end Go.Proofs.YthidkbhiikdokaaGreat
