/- Rows of structs, half way through a change. -/
import Derived.Test.YtaidhenkijjcfaaGreatZqPfTo
set_option maxRecDepth 20000
set_option maxHeartbeats 8000000
namespace Go.Proofs.YtaidhenkijjcfaaGreat
open Go.RowKit
set_option linter.unusedVariables false
theorem eqProof_same (p:Pf) (u t:Pv) (w:World) (hr:RdPf w p u) (ht:RdPf w p t) (hf:FewPf p) :
    Calls Tryz.prog 13 #[pfV p u,pfV p t] w fun e w'=>e=.returned (.bool true)/\Below w.heap.size w w':=by
  have hnb:=hf.nb
  have hfb:=hf.fb
  have hnw:=hf.nw
  clear hf
  obtain ⟨ep,bs,qr,qb,qw⟩:=p
  obtain ⟨yb,yw⟩:=u
  obtain ⟨hyb,hyw⟩:=hr
  simp only at *
  obtain ⟨adb,cpb,rfl⟩:=hyb.shape
  obtain ⟨adw,cpw,rfl⟩:=hyw.shape
  obtain ⟨zb,zw⟩:=t
  obtain ⟨jyb,jyw⟩:=ht
  simp only at *
  obtain ⟨bdb,bpb,rfl⟩:=jyb.shape
  obtain ⟨bdw,bpw,rfl⟩:=jyw.shape
  have E1:=hide (fun V (hV:Below w.heap.size w V)=>eqBlockS_any (.slice adb bs.length cpb) (.slice bdb bs.length bpb) bs V (hyb.below hV (Nat.le_refl _)) (jyb.below hV (Nat.le_refl _)) hnb hfb)
  have E2:=hide (fun V (hV:Below w.heap.size w V)=>eqQc_any qr qb (.slice adw qw.length cpw) (.slice bdw qw.length bpw) qw V (hyw.below hV (Nat.le_refl _)) (jyw.below hV (Nat.le_refl _)) hnw)
  clear hyb hyw jyb jyw
  clear hfb
  simp only [pfV,qcV] at *
  obtain ⟨S0,hS0⟩:∃ x,(w.alloc (.cells #[.int .i64 ep,.slice adb bs.length cpb,.int .i64 qr,.int .i64 qb,.slice adw qw.length cpw] 42)).alloc (.cells #[.int .i64 ep,.slice bdb bs.length bpb,.int .i64 qr,.int .i64 qb,.slice bdw qw.length bpw] 42)=x:=⟨_,rfl⟩
  have kA0:Blk S0 w.heap.size 42 [.int .i64 ep,.slice adb bs.length cpb,.int .i64 qr,.int .i64 qb,.slice adw qw.length cpw]:=by rw [<- hS0];exact (Blk.new w _ _).below ((Below.refl (w.heap.size+1) _).alloc (by simp) _) (by omega)
  have kB0:Blk S0 (w.heap.size+1) 42 [.int .i64 ep,.slice bdb bs.length bpb,.int .i64 qr,.int .i64 qb,.slice bdw qw.length bpw]:=by rw [<- hS0];exact Blk.newR _ _ [.int .i64 ep,.slice bdb bs.length bpb,.int .i64 qr,.int .i64 qb,.slice bdw qw.length bpw] _ (by simp)
  have b0:Below w.heap.size w S0:=by rw [<- hS0];exact ((Below.refl _ w).alloc (Nat.le_refl _) _).alloc (by simp) _
  have x0:=kA0.cell 0
  have x1:=kA0.cell 1
  simp only [List.getElem?_cons_zero,List.getElem?_cons_succ] at x0 x1
  have y0:=kB0.cell 0
  have y1:=kB0.cell 1
  simp only [List.getElem?_cons_zero,List.getElem?_cons_succ] at y0 y1
  have KA0:=hide kA0
  have KB0:=hide kB0
  clear kA0 kB0
  go_enter Tryz.func13,Tryz.ntmps13
  go_wp2_with fail
  (try rw [hS0])
  clear hS0
  refine (E1.out _ b0).mono ?_
  rintro e w1 ⟨rfl,hb1⟩
  have b1:=b0.trans (hb1.mono b0.size)
  have kA1:=KA0.out.below hb1 KA0.out.lt
  have kB1:=KB0.out.below hb1 KB0.out.lt
  clear x0 x1 y0 y1 KA0 KB0 b0 hb1 E1
  have x2:=kA1.cell 2
  have x3:=kA1.cell 3
  have x4:=kA1.cell 4
  simp only [List.getElem?_cons_zero,List.getElem?_cons_succ] at x2 x3 x4
  have y2:=kB1.cell 2
  have y3:=kB1.cell 3
  have y4:=kB1.cell 4
  simp only [List.getElem?_cons_zero,List.getElem?_cons_succ] at y2 y3 y4
  have KA1:=hide kA1
  have KB1:=hide kB1
  clear kA1 kB1
  go_wp2_with fail
  refine (E2.out _ b1).mono ?_
  rintro e w2 ⟨rfl,hb2⟩
  have b2:=b1.trans (hb2.mono b1.size)
  have kA2:=KA1.out.below hb2 KA1.out.lt
  have kB2:=KB1.out.below hb2 KB1.out.lt
  clear x2 x3 x4 y2 y3 y4 KA1 KB1 b1 hb2 E2
  clear kA2 kB2
  go_wp2
  go_ret
  exact ⟨rfl,b2⟩
section
variable {α:Type}
structure MidR (T:TypeId) (sz:Nat) (O:Nat->Nat->World->α->Prop) (lo hi:Nat) (w:World) (g n cap:Nat) (Y:List Value) (Z:List α):Prop where
  row:w.ownsRow lo T sz (.slice (some ⟨g,0,none⟩) n cap) n Y
  top:g < hi
  parts:Parts O lo hi (some g) w Z
end
structure RowSt (lo:Nat) (T:TypeId) (sz:Nat) (S:Nat->Prop) (w W:World) (g n cap:Nat) (Y:List Value):Prop where
  row:W.ownsRow lo T sz (.slice (some ⟨g,0,none⟩) n cap) n Y
  oth:Oth S w W
section
variable {α:Type}
def nxG (nx:Nat->α->Nat):Nat->List α->Nat
  | k,[]=>k
  | k,a :: t=>nxG nx (nx k a) t
def mkG (mk:Nat->α->α) (nx:Nat->α->Nat):Nat->List α->List α
  | _,[]=>[]
  | k,a :: t=>mk k a :: mkG mk nx (nx k a) t
def mixG (mk:Nat->α->α) (nx:Nat->α->Nat) (k:Nat) (Z:List α) (j:Nat):List α:=mkG mk nx k (Z.take j) ++ Z.drop j
end
section
variable {α β:Type}
end
end Go.Proofs.YtaidhenkijjcfaaGreat
