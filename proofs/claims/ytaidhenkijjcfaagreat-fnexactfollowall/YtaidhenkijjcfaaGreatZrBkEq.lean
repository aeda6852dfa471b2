/- Blocks held against each other by the laws. -/
import Derived.Test.YtaidhenkijjcfaaGreatZrMkIn
set_option maxRecDepth 20000
set_option maxHeartbeats 2000000
namespace Go.Proofs.YtaidhenkijjcfaaGreat
open Go.RowKit Go.Sort
set_option linter.unusedVariables false
def clC (e:Int) (v:Value):List Value:=[.int .i64 e,v]
theorem clC_one {w:World} {e:Int} {v:Value} {l:List Vl} (h:RdV w v l):(clC e v).all (·.oneCell')=true:=by
  obtain ⟨a,c,rfl⟩:=h.shape
  rfl
theorem OwnC.kept {lo hi:Nat} {w w':World} {v:Value} {l:List Vl} (h:OwnC lo hi w v l) (hk:Kept lo hi w w'):OwnC lo hi w' v l:=⟨row_kept h.own hk (Nat.le_refl _) h.top,h.top⟩
theorem markClient_own (e:Int) (v:Value) (l:List Vl) (K lo hi:Nat) (w:World) (ho:OwnC lo hi w v l) (hl:l.length<=4000000) (hk:K<=40000000) (hk0:0 < K) :
    Calls Tryz.prog 14 #[lgV e v,.int .i64 (K:Int)] w (Mkd (K+2 * l.length) lo hi (fun w'=>OwnC lo hi w' v (mkV K l.length)) w) :=
  (markClient_any e v l K lo hi w ho (by omega) (by omega) hk0).mono (fun _ _ h=>⟨h.1,h.2.1,oth_btw h.2.2⟩)
end Go.Proofs.YtaidhenkijjcfaaGreat
namespace Go.Proofs.YtaidhenkijjcfaaGreat
open Go.RowKit
set_option linter.unusedVariables false
structure Pf where
  ep:Int
  bs:List Bk
  qr:Int
  qb:Int
  qw:List ByteArray
structure Pv where
  b:Value
  w:Value
def pfC (p:Pf) (u:Pv):List Value:=[.int .i64 p.ep,u.b,.int .i64 p.qr,.int .i64 p.qb,u.w]
def pfV (p:Pf) (u:Pv):Value:=.agg #[.int .i64 p.ep,u.b,.int .i64 p.qr,.int .i64 p.qb,u.w]
def pfCZ:List Value:=[.int .i64 0,.slice none 0 0,.int .i64 0,.int .i64 0,.slice none 0 0]
theorem pfC_sz (q:Pf × Pv):(pfC q.1 q.2).length=5:=rfl
structure RdPf (w:World) (p:Pf) (u:Pv):Prop where
  kb:RdKs w u.b p.bs
  kw:RdS w u.w p.qw
theorem RdPf.below {B:Nat} {w w':World} {p:Pf} {u:Pv} (h:RdPf w p u) (hb:Below B w w') (hB:w.heap.size<=B):RdPf w' p u:=⟨h.kb.below hb hB,h.kw.below hb hB⟩
structure OwnPf (lo hi:Nat) (w:World) (p:Pf) (u:Pv):Prop where
  ex:∃ m0 m1 m2:Nat,lo<=m0/\m0<=m1/\m1<=m2/\m2<=hi/\OwnKx m0 m1 w u.b p.bs/\InS m1 m2 w u.w p.qw
theorem OwnPf.rd {lo hi:Nat} {w:World} {p:Pf} {u:Pv} (h:OwnPf lo hi w p u):RdPf w p u:=by
  obtain ⟨m0,m1,m2,k0,k1,k2,k3,xb,xw⟩:=h.ex
  exact ⟨xb.rd,xw.rd⟩
theorem OwnPf.kept {lo hi:Nat} {w w':World} {p:Pf} {u:Pv} (h:OwnPf lo hi w p u) (hk:Kept lo hi w w'):OwnPf lo hi w' p u:=by
  obtain ⟨m0,m1,m2,k0,k1,k2,k3,xb,xw⟩:=h.ex
  exact ⟨m0,m1,m2,k0,k1,k2,k3,xb.kept (hk.mono (by omega) (by omega)),xw.kept (hk.mono (by omega) (by omega))⟩
theorem OwnPf.wide {lo hi lo' hi':Nat} {w:World} {p:Pf} {u:Pv} (h:OwnPf lo hi w p u) (h1:lo'<=lo) (h2:hi<=hi'):OwnPf lo' hi' w p u:=by
  obtain ⟨m0,m1,m2,k0,k1,k2,k3,xb,xw⟩:=h.ex
  exact ⟨m0,m1,m2,by omega,k1,k2,by omega,xb,xw⟩
def RdPs (w:World) (v:Value) (l:List Pf):Prop:=∃ Z:List (Pf × Pv),Z.map (·.1)=l/\RdRow 5 (fun q=>pfC q.1 q.2) (fun w q=>RdPf w q.1 q.2) w v Z
theorem RdPs.shape {w:World} {v:Value} {l:List Pf} (h:RdPs w v l):∃ a cap,v=.slice a l.length cap:=by
  obtain ⟨Z,rfl,h⟩:=h
  obtain ⟨a,cap,rfl⟩:=h.shape
  exact ⟨a,cap,by simp⟩
theorem RdPs.below {B:Nat} {w w':World} {v:Value} {l:List Pf} (h:RdPs w v l) (hb:Below B w w') (hB:w.heap.size<=B):RdPs w' v l:=by
  obtain ⟨Z,hZ,h⟩:=h
  exact ⟨Z,hZ,h.below hb hB (fun q hq=>hq.below hb hB)⟩
def OwnPx (lo hi:Nat) (w:World) (v:Value) (l:List Pf):Prop:=∃ Z:List (Pf × Pv),Z.map (·.1)=l/\OwnRow 42 5 (fun q=>pfC q.1 q.2) (fun a b w q=>OwnPf a b w q.1 q.2) lo hi w v Z
theorem OwnPx.rd {lo hi:Nat} {w:World} {v:Value} {l:List Pf} (h:OwnPx lo hi w v l):RdPs w v l:=by
  obtain ⟨Z,hZ,h⟩:=h
  exact ⟨Z,hZ,h.rd pfC_sz (fun a b q hq=>hq.rd)⟩
theorem OwnPx.kept {lo hi:Nat} {w w':World} {v:Value} {l:List Pf} (h:OwnPx lo hi w v l) (hk:Kept lo hi w w'):OwnPx lo hi w' v l:=by
  obtain ⟨Z,hZ,h⟩:=h
  exact ⟨Z,hZ,h.kept hk (fun a b q h1 h2 hq=>hq.kept (hk.mono h1 h2))⟩
theorem OwnPx.wide {lo hi lo' hi':Nat} {w:World} {v:Value} {l:List Pf} (h:OwnPx lo hi w v l) (h1:lo'<=lo) (h2:hi<=hi'):OwnPx lo' hi' w v l:=by
  obtain ⟨Z,hZ,h⟩:=h
  exact ⟨Z,hZ,h.wide h1 h2⟩
structure Nd where
  nm:ByteArray
  ep:Int
  be:Int
  la:List Ac
  st:List Vl
  tt:List Bk
  rd:Int
  vd:Int
  hr:Int
  hb:Int
  hw:List ByteArray
  tr:Int
  tw:List ByteArray
  th:List Int
  ld:Int
  vo:List Tr
  go:List Tr
  dn:List Int
  pl:List Tx5
  ps:List Pf
structure Nv where
  a:Value
  s:Value
  t:Value
  w:Value
  x:Value
  h:Value
  v:Value
  g:Value
  d:Value
  p:Value
  q:Value
def noC (p:Nd) (u:Nv):List Value:=[.string p.nm,.int .i64 p.ep,.int .i64 p.be,u.a,u.s,u.t,.int .i64 p.rd,.int .i64 p.vd,.int .i64 p.hr,.int .i64 p.hb,u.w,.int .i64 p.tr,u.x,u.h,.int .i64 p.ld,u.v,u.g,u.d,u.p,u.q]
def noV (p:Nd) (u:Nv):Value:=.agg #[.string p.nm,.int .i64 p.ep,.int .i64 p.be,u.a,u.s,u.t,.int .i64 p.rd,.int .i64 p.vd,.int .i64 p.hr,.int .i64 p.hb,u.w,.int .i64 p.tr,u.x,u.h,.int .i64 p.ld,u.v,u.g,u.d,u.p,u.q]
def noCZ:List Value:=[.string { data:=#[] },.int .i64 0,.int .i64 0,.slice none 0 0,.slice none 0 0,.slice none 0 0,.int .i64 0,.int .i64 0,.int .i64 0,.int .i64 0,.slice none 0 0,.int .i64 0,.slice none 0 0,.slice none 0 0,.int .i64 0,.slice none 0 0,.slice none 0 0,.slice none 0 0,.slice none 0 0,.slice none 0 0]
structure RdNd (w:World) (p:Nd) (u:Nv):Prop where
  ka:RdA w u.a p.la
  ks:RdV w u.s p.st
  kt:RdKs w u.t p.tt
  kw:RdS w u.w p.hw
  kx:RdS w u.x p.tw
  kh:RdI w u.h p.th
  kv:RdR w u.v p.vo
  kg:RdR w u.g p.go
  kd:RdI w u.d p.dn
  kp:RdT w u.p p.pl
  kq:RdPs w u.q p.ps
theorem RdNd.below {B:Nat} {w w':World} {p:Nd} {u:Nv} (h:RdNd w p u) (hb:Below B w w') (hB:w.heap.size<=B):RdNd w' p u:=⟨h.ka.below hb hB,h.ks.below hb hB,h.kt.below hb hB,h.kw.below hb hB,h.kx.below hb hB,h.kh.below hb hB,h.kv.below hb hB,h.kg.below hb hB,h.kd.below hb hB,h.kp.below hb hB,h.kq.below hb hB⟩
structure OwnNd (lo hi:Nat) (w:World) (p:Nd) (u:Nv):Prop where
  ex:∃ m0 m1 m2 m3 m4 m5 m6 m7 m8 m9 m10:Nat,lo<=m0/\m0<=m1/\m1<=m2/\m2<=m3/\m3<=m4/\m4<=m5/\m5<=m6/\m6<=m7/\m7<=m8/\m8<=m9/\m9<=m10/\m10<=hi/\OwnX m0 m1 w u.a p.la/\InV m1 m2 w u.s p.st/\OwnKx m2 m3 w u.t p.tt/\InS m3 m4 w u.w p.hw/\InS m4 m5 w u.x p.tw/\InI m4 m5 w u.h p.th/\InR 173 m5 m6 w u.v p.vo/\InR 175 m6 m7 w u.g p.go/\InI m7 m8 w u.d p.dn/\InT m8 m9 w u.p p.pl/\OwnPx m9 m10 w u.q p.ps
theorem OwnNd.rd {lo hi:Nat} {w:World} {p:Nd} {u:Nv} (h:OwnNd lo hi w p u):RdNd w p u:=by
  obtain ⟨m0,m1,m2,m3,m4,m5,m6,m7,m8,m9,m10,k0,k1,k2,k3,k4,k5,k6,k7,k8,k9,k10,k11,xa,xs,xt,xw,xx,xh,xv,xg,xd,xp,xq⟩:=h.ex
  exact ⟨xa.rd,xs.rd,xt.rd,xw.rd,xx.rd,xh.rd,xv.rd,xg.rd,xd.rd,xp.rd,xq.rd⟩
theorem OwnNd.kept {lo hi:Nat} {w w':World} {p:Nd} {u:Nv} (h:OwnNd lo hi w p u) (hk:Kept lo hi w w'):OwnNd lo hi w' p u:=by
  obtain ⟨m0,m1,m2,m3,m4,m5,m6,m7,m8,m9,m10,k0,k1,k2,k3,k4,k5,k6,k7,k8,k9,k10,k11,xa,xs,xt,xw,xx,xh,xv,xg,xd,xp,xq⟩:=h.ex
  exact ⟨m0,m1,m2,m3,m4,m5,m6,m7,m8,m9,m10,k0,k1,k2,k3,k4,k5,k6,k7,k8,k9,k10,k11,xa.kept (hk.mono (by omega) (by omega)),xs.kept (hk.mono (by omega) (by omega)),xt.kept (hk.mono (by omega) (by omega)),xw.kept (hk.mono (by omega) (by omega)),xx.kept (hk.mono (by omega) (by omega)),xh.kept (hk.mono (by omega) (by omega)),xv.kept (hk.mono (by omega) (by omega)),xg.kept (hk.mono (by omega) (by omega)),xd.kept (hk.mono (by omega) (by omega)),xp.kept (hk.mono (by omega) (by omega)),xq.kept (hk.mono (by omega) (by omega))⟩
def RdNs (w:World) (v:Value) (l:List Nd):Prop:=∃ Z:List (Nd × Nv),Z.map (·.1)=l/\RdRow 20 (fun q=>noC q.1 q.2) (fun w q=>RdNd w q.1 q.2) w v Z
def OwnNx (lo hi:Nat) (w:World) (v:Value) (l:List Nd):Prop:=∃ Z:List (Nd × Nv),Z.map (·.1)=l/\OwnRow 73 20 (fun q=>noC q.1 q.2) (fun a b w q=>OwnNd a b w q.1 q.2) lo hi w v Z
theorem eqQc_any (r b:Int) (v1 v2:Value) (ws:List ByteArray) (w:World) (h1:RdS w v1 ws) (h2:RdS w v2 ws) (hl:ws.length<=4000000) :
    Calls Tryz.prog 46 #[qcV r b v1,qcV r b v2] w fun e w'=>e=.returned (.bool true)/\Below w.heap.size w w':=by
  obtain ⟨a1,c1,rfl⟩:=h1.shape
  obtain ⟨a2,c2,rfl⟩:=h2.shape
  simp only [qcV]
  obtain ⟨w1,hw1⟩:∃ x,(w.alloc (.cells #[.int .i64 r,.int .i64 b,.slice a1 ws.length c1] 40)).alloc (.cells #[.int .i64 r,.int .i64 b,.slice a2 ws.length c2] 40)=x:=⟨_,rfl⟩
  have b1:Below w.heap.size w w1:=by rw [<- hw1];exact ((Below.refl _ w).alloc (Nat.le_refl _) _).alloc (by simp) _
  have k1:Blk w1 w.heap.size 40 [.int .i64 r,.int .i64 b,.slice a1 ws.length c1]:=by rw [<- hw1];exact (Blk.new w _ _).below ((Below.refl (w.heap.size+1) _).alloc (by simp) _) (by omega)
  have k2:Blk w1 (w.heap.size+1) 40 [.int .i64 r,.int .i64 b,.slice a2 ws.length c2]:=by rw [<- hw1];exact Blk.newR _ _ [.int .i64 r,.int .i64 b,.slice a2 ws.length c2] _ (by simp)
  have HE:=hide (eqStringS_any _ _ ws ws w1 (h1.below b1 (Nat.le_refl _)) (h2.below b1 (Nat.le_refl _)) hl hl)
  rw [decide_eq_true rfl] at HE
  have x0:=k1.cell 0
  have x1:=k1.cell 1
  have x2:=k1.cell 2
  have y0:=k2.cell 0
  have y1:=k2.cell 1
  have y2:=k2.cell 2
  simp only [List.getElem?_cons_zero,List.getElem?_cons_succ] at x0 x1 x2 y0 y1 y2
  have HB1:=hide b1
  clear h1 h2 k1 k2 b1
  go_enter Tryz.func46,Tryz.ntmps46
  go_wp2_with fail
  refine HE.out.mono ?_
  rintro e w2 ⟨rfl,hb2⟩
  have HB2:=hide (HB1.out.trans (hb2 _))
  clear x0 x1 x2 y0 y1 y2 hw1 hb2
  go_wp2
  go_ret
  exact ⟨rfl,HB2.out⟩
theorem eqBlock_any (b:Bk) (v1 v2:Bv) (w:World) (h1:RdK w b v1) (h2:RdK w b v2) (hf:FewK b) :
    Calls Tryz.prog 105 #[bkV b v1,bkV b v2] w fun e w'=>e=.returned (.bool true)/\Below w.heap.size w w':=by
  have hlq:=hf.q
  have hlw:=hf.w
  have hlh:=hf.h
  have hlt:=hf.t
  have hln:=hf.n
  clear hf
  obtain ⟨id,ep,rd,mk,qr,qb,qw,tr,tw,th,ts,en,nx,rt⟩:=b
  obtain ⟨vq,vw,vh,vt,vn⟩:=v1
  obtain ⟨uq,uw,uh,ut,un⟩:=v2
  obtain ⟨hq,hw,hh,ht,hn⟩:=h1
  obtain ⟨gq,gw,gh,gt,gn⟩:=h2
  simp only [bkV] at *
  obtain ⟨aq,cq,rfl⟩:=hq.shape
  obtain ⟨aw,cw,rfl⟩:=hw.shape
  obtain ⟨ah,ch,rfl⟩:=hh.shape
  obtain ⟨at',ct,rfl⟩:=ht.shape
  obtain ⟨an,cn,rfl⟩:=hn.shape
  obtain ⟨aq2,cq2,rfl⟩:=gq.shape
  obtain ⟨aw2,cw2,rfl⟩:=gw.shape
  obtain ⟨ah2,ch2,rfl⟩:=gh.shape
  obtain ⟨at2,ct2,rfl⟩:=gt.shape
  obtain ⟨an2,cn2,rfl⟩:=gn.shape
  obtain ⟨w1,hw1⟩:∃ x,(w.alloc (.cells #[.int .i64 id,.int .i64 ep,.int .i64 rd,.string mk,.int .i64 qr,.int .i64 qb,.slice aq qw.length cq,.int .i64 tr,.slice aw tw.length cw,.slice ah th.length ch,.slice at' ts.length ct,.bool en,.slice an nx.length cn,.string rt] 92)).alloc (.cells #[.int .i64 id,.int .i64 ep,.int .i64 rd,.string mk,.int .i64 qr,.int .i64 qb,.slice aq2 qw.length cq2,.int .i64 tr,.slice aw2 tw.length cw2,.slice ah2 th.length ch2,.slice at2 ts.length ct2,.bool en,.slice an2 nx.length cn2,.string rt] 92)=x:=⟨_,rfl⟩
  have b1:Below w.heap.size w w1:=by rw [<- hw1];exact ((Below.refl _ w).alloc (Nat.le_refl _) _).alloc (by simp) _
  have k1:Blk w1 w.heap.size 92 [.int .i64 id,.int .i64 ep,.int .i64 rd,.string mk,.int .i64 qr,.int .i64 qb,.slice aq qw.length cq,.int .i64 tr,.slice aw tw.length cw,.slice ah th.length ch,.slice at' ts.length ct,.bool en,.slice an nx.length cn,.string rt]:=by rw [<- hw1];exact (Blk.new w _ _).below ((Below.refl (w.heap.size+1) _).alloc (by simp) _) (by omega)
  have m1:Blk w1 (w.heap.size+1) 92 [.int .i64 id,.int .i64 ep,.int .i64 rd,.string mk,.int .i64 qr,.int .i64 qb,.slice aq2 qw.length cq2,.int .i64 tr,.slice aw2 tw.length cw2,.slice ah2 th.length ch2,.slice at2 ts.length ct2,.bool en,.slice an2 nx.length cn2,.string rt]:=by rw [<- hw1];exact Blk.newR _ _ [.int .i64 id,.int .i64 ep,.int .i64 rd,.string mk,.int .i64 qr,.int .i64 qb,.slice aq2 qw.length cq2,.int .i64 tr,.slice aw2 tw.length cw2,.slice ah2 th.length ch2,.slice at2 ts.length ct2,.bool en,.slice an2 nx.length cn2,.string rt] _ (by simp)
  have E1:=hide (fun V (hV:Below w.heap.size w V)=>eqQc_any qr qb (.slice aq qw.length cq) (.slice aq2 qw.length cq2) qw V (hq.below hV (Nat.le_refl _)) (gq.below hV (Nat.le_refl _)) hlq)
  have E2:=hide (fun V (hV:Below w.heap.size w V)=>eqTc_any tr (.slice aw tw.length cw) (.slice ah th.length ch) (.slice aw2 tw.length cw2) (.slice ah2 th.length ch2) tw th V (hw.below hV (Nat.le_refl _)) (hh.below hV (Nat.le_refl _)) (gw.below hV (Nat.le_refl _)) (gh.below hV (Nat.le_refl _)) hlw hlh)
  have E3:=hide (fun V (hV:Below w.heap.size w V)=>eqTxS_any (.slice at' ts.length ct) (.slice at2 ts.length ct2) ts ts V (ht.below hV (Nat.le_refl _)) (gt.below hV (Nat.le_refl _)) hlt hlt rfl)
  have E4:=hide (fun V (hV:Below w.heap.size w V)=>eqValS_any (.slice an nx.length cn) (.slice an2 nx.length cn2) nx nx V (hn.below hV (Nat.le_refl _)) (gn.below hV (Nat.le_refl _)) hln hln)
  rw [decide_eq_true rfl] at E4
  simp only [qcV,tcV] at E1 E2
  have HB1:=hide b1
  clear hq hw hh ht hn gq gw gh gt gn b1
  go_enter Tryz.func105,Tryz.ntmps105
  have x0:=k1.cell 0
  have y0:=m1.cell 0
  have x1:=k1.cell 1
  have y1:=m1.cell 1
  have x2:=k1.cell 2
  have y2:=m1.cell 2
  have x3:=k1.cell 3
  have y3:=m1.cell 3
  have x4:=k1.cell 4
  have y4:=m1.cell 4
  have x5:=k1.cell 5
  have y5:=m1.cell 5
  have x6:=k1.cell 6
  have y6:=m1.cell 6
  simp only [List.getElem?_cons_zero,List.getElem?_cons_succ] at x0 y0 x1 y1 x2 y2 x3 y3 x4 y4 x5 y5 x6 y6
  go_wp2_with fail
  refine (E1.out _ HB1.out).mono ?_
  rintro e w2 ⟨rfl,hb2⟩
  have k2:=k1.below hb2 k1.lt
  have m2:=m1.below hb2 m1.lt
  have HB2:=hide (HB1.out.trans (hb2.mono HB1.out.size))
  clear k1 m1 hb2
  clear x0 y0 x1 y1 x2 y2 x3 y3 x4 y4 x5 y5 x6 y6 hw1
  have x7:=k2.cell 7
  have y7:=m2.cell 7
  have x8:=k2.cell 8
  have y8:=m2.cell 8
  have x9:=k2.cell 9
  have y9:=m2.cell 9
  simp only [List.getElem?_cons_zero,List.getElem?_cons_succ] at x7 y7 x8 y8 x9 y9
  go_wp2_with fail
  refine (E2.out _ HB2.out).mono ?_
  rintro e w3 ⟨rfl,hb3⟩
  have k3:=k2.below hb3 k2.lt
  have m3:=m2.below hb3 m2.lt
  have HB3:=hide (HB2.out.trans (hb3.mono HB2.out.size))
  clear k2 m2 hb3
  clear x7 y7 x8 y8 x9 y9
  have x10:=k3.cell 10
  have y10:=m3.cell 10
  simp only [List.getElem?_cons_zero,List.getElem?_cons_succ] at x10 y10
  go_wp2_with fail
  refine (E3.out _ HB3.out).mono ?_
  rintro e w4 ⟨rfl,hb4⟩
  have k4:=k3.below hb4 k3.lt
  have m4:=m3.below hb4 m3.lt
  have HB4:=hide (HB3.out.trans (hb4.mono HB3.out.size))
  clear k3 m3 hb4
  clear x10 y10
  have x11:=k4.cell 11
  have y11:=m4.cell 11
  have x12:=k4.cell 12
  have y12:=m4.cell 12
  simp only [List.getElem?_cons_zero,List.getElem?_cons_succ] at x11 y11 x12 y12
  go_wp2_with fail
  refine (E4.out _ HB4.out).mono ?_
  rintro e w5 ⟨rfl,hb5⟩
  have k5:=k4.below hb5 k4.lt
  have m5:=m4.below hb5 m4.lt
  have HB5:=hide (HB4.out.trans (hb5.mono HB4.out.size))
  clear k4 m4 hb5
  clear x11 y11 x12 y12
  have x13:=k5.cell 13
  have y13:=m5.cell 13
  simp only [List.getElem?_cons_zero,List.getElem?_cons_succ] at x13 y13
  go_wp2
  go_ret
  exact ⟨rfl,HB5.out⟩
end Go.Proofs.YtaidhenkijjcfaaGreat
