/- Rows of structs. -/
import Derived.Test.YtohachldbpejpaaGreatDoorZoPutPure
import Derived.Deep.RegionWith
set_option maxRecDepth 20000
set_option maxHeartbeats 1000000
namespace Go.Proofs.YtohachldbpejpaaGreatDoor
open Go.RowKit
set_option linter.unusedVariables false
structure Cur (w0 w:World) (g:Nat) (cv:Value) (code:List UInt8):Prop where
  rd:RdB w0 cv code
  bel:Below w0.heap.size w0 w
  le:w0.heap.size<=g
  blk:∃ i h:Int,w.heap[g]?=some (.cells #[cv,.int .i64 i,.int .i64 h] 160 (0,0))/\0<=i/\i<=code.length/\-9223372036854775808<=h/\h<=9223372036854775807
def mulK (h:Int):Int:=wrap64 (h * 6364136223846793005)
theorem wrap64_bd (x:Int):-9223372036854775808<=wrap64 x/\wrap64 x<=9223372036854775807:=by unfold wrap64;omega
theorem and255_bd (x:Int):0<=bits .and .i64 x 255/\bits .and .i64 x 255<=255:=by
  show 0<=IntKind.i64.wrap ((BitVec.ofInt 64 x &&& BitVec.ofInt 64 255).toNat:Int)/\IntKind.i64.wrap ((BitVec.ofInt 64 x &&& BitVec.ofInt 64 255).toNat:Int)<=255
  have h:(BitVec.ofInt 64 x &&& BitVec.ofInt 64 255).toNat<=255:=by
    rw [BitVec.toNat_and]
    exact Nat.le_trans Nat.and_le_right (by decide)
  rw [IntKind.wrap_i64]
  omega
theorem cur_cells {w:World} {g:Nat} {a b c:Value} {t:TypeId} (h:w.heap[g]?=some (.cells #[a,b,c] t (0,0))) :
    w.cell? ⟨g,0,none⟩=some a/\w.cell? ⟨g,1,none⟩=some b/\w.cell? ⟨g,2,none⟩=some c/\w.frozen? ⟨g,0,none⟩=false/\w.frozen? ⟨g,1,none⟩=false/\w.frozen? ⟨g,2,none⟩=false :=
  ⟨cell_of_row w g 0 _ t (0,0) h,cell_of_row w g 1 _ t (0,0) h,cell_of_row w g 2 _ t (0,0) h,frozen_of_row w g 0 _ t h,frozen_of_row w g 1 _ t h,frozen_of_row w g 2 _ t h⟩
theorem cur_set {w:World} {g:Nat} {a b c:Value} {t:TypeId} (h:w.heap[g]?=some (.cells #[a,b,c] t (0,0))) (u:Value) :
    ((w.setCell ⟨g,2,none⟩ u).heap[g]?=some (.cells #[a,b,u] t (0,0))/\w.grownBy (w.setCell ⟨g,2,none⟩ u) (some g)) /\
    ((w.setCell ⟨g,1,none⟩ u).heap[g]?=some (.cells #[a,u,c] t (0,0))/\w.grownBy (w.setCell ⟨g,1,none⟩ u) (some g)) :=
  ⟨⟨heap_setCell_same w g 2 #[a,b,c] t u h,⟨rfl,rfl,rfl,by simp,fun k _ hk=>heap_setCell_other w ⟨g,2,none⟩ k u (fun e=>hk (by simp [e]))⟩⟩,
   ⟨heap_setCell_same w g 1 #[a,b,c] t u h,⟨rfl,rfl,rfl,by simp,fun k _ hk=>heap_setCell_other w ⟨g,1,none⟩ k u (fun e=>hk (by simp [e]))⟩⟩⟩
theorem grw_trans {a b c:World} {row:Option Nat} (h:a.grownBy b row) (k:b.grownBy c row):a.grownBy c row :=
  ⟨k.os.trans h.os,k.tape.trans h.tape,k.output.trans h.output,Nat.le_trans h.size k.size,fun i hi hr=>(k.block i (Nat.lt_of_lt_of_le hi h.size) hr).trans (h.block i hi hr)⟩
theorem grw_drewN {a b:World} {row:Option Nat} (h:a.grownBy b row) (n:Nat):a.grownBy (b.drewN n) row:=⟨h.os,h.tape,h.output,h.size,h.block⟩
theorem Cur.step {w0 w w':World} {g:Nat} {cv:Value} {code:List UInt8} (hc:Cur w0 w g cv code) (hg:w.grownBy w' (some g)) (i h:Int)
    (hb:w'.heap[g]?=some (.cells #[cv,.int .i64 i,.int .i64 h] 160 (0,0))) (h1:0<=i) (h2:i<=code.length) (h3:-9223372036854775808<=h) (h4:h<=9223372036854775807):Cur w0 w' g cv code :=
  ⟨hc.rd,hc.bel.grown hg hc.bel.size (fun k hk=>by cases hk;exact hc.le),hc.le,⟨i,h,hb,h1,h2,h3,h4⟩⟩
theorem Cur.byte {w0 w:World} {g b off cap:Nat} {code:List UInt8} (hbel:Below w0.heap.size w0 w) (hb:b < w0.heap.size) (j:Nat) {v:Value} (hc:w0.cell? ⟨b,off+j,none⟩=some v):w.cell? ⟨b,off+j,none⟩=some v:=(hbel.cell (p:=⟨b,off+j,none⟩) hb).trans hc
theorem l1Byte_any (w0 w:World) (g:Nat) (cv:Value) (code:List UInt8) (hc:Cur w0 w g cv code) (hl:code.length<=1048576) :
    Calls Tryz.prog 132 #[.pointer (some ⟨g,0,none⟩)] w fun e w'=>∃ x:Nat,e=.returned (.int .i64 (x:Int))/\x<=255/\Cur w0 w' g cv code/\w.grownBy w' (some g):=by
  obtain ⟨i,h,hb,hi0,hi1,hh0,hh1⟩:=hc.blk
  obtain ⟨c0,c1,c2,f0,f1,f2⟩:=cur_cells hb
  have Hc:=hide hc
  have Hb:=hide hb
  clear hb
  have km:∀ h:Int,wrap64 (h * 6364136223846793005)=mulK h:=fun _=>rfl
  obtain ⟨I,rfl⟩:=Int.eq_ofNat_of_zero_le hi0
  obtain ⟨av,capv,hcv⟩:=hc.rd.shape
  have Hrd:=hide hc.rd
  subst hcv
  clear hc
  go_enter Tryz.func132,Tryz.ntmps132
  go_wp2
  clear km
  generalize wrap64 (h * 6364136223846793005)=Y
  have hHb:=wrap64_bd (mulK h+1442695040888963407)
  generalize wrap64 (mulK h+1442695040888963407)=H at hHb
  obtain ⟨hH0,hH1⟩:=hHb
  have hs:=(cur_set Hb.out (.int .i64 H)).1
  generalize w.setCell ⟨g,2,none⟩ (.int .i64 H)=w1 at hs
  obtain ⟨hb1,hg1⟩:=hs
  clear c0 c1 c2 f0 f1 f2
  obtain ⟨c0,c1,c2,f0,f1,f2⟩:=cur_cells hb1
  have Hb1:=hide hb1
  have Hg1:=hide hg1
  clear hb1 hg1
  go_quiet (fail)
  go_wp2
  have hX:=and255_bd (bits BinOp.xor IntKind.i64 (H / 8589934592) (H / 140737488355328))
  generalize bits BinOp.and IntKind.i64 (bits BinOp.xor IntKind.i64 (H / 8589934592) (H / 140737488355328)) 255=X at hX
  obtain ⟨hX0,hX1⟩:=hX
  obtain ⟨x,rfl⟩:=Int.eq_ofNat_of_zero_le hX0
  have hx:x<=255:=by omega
  clear hX0 hX1
  by_cases hI:I < code.length
  · rcases Hrd.out with ⟨_,_,_,e,_⟩ | ⟨b,off,cap,h0,hv,h1,h2,h3,h4⟩
    · rw [e] at hI;simp at hI
    · cases hv
      have hc4:w1.cell? ⟨b,off+I,none⟩=some (.int .u8 (code[I].toNat:Int)):=Cur.byte (g:=g) (cap:=capv) (code:=code) (Hc.out.step Hg1.out _ _ Hb1.out (by omega) (by omega) hH0 hH1).bel h3 I (h4 I hI)
      have hcb:(code[I].toNat:Int) < 256:=by have:=code[I].toNat_lt;omega
      generalize code[I].toNat=C at hc4 hcb
      have hlt:(I:Int) < (code.length:Int):=by omega
      clear h4 h0 h1 h2 h3
      go_quiet (fail)
      go_wp2
      go_quiet (fail)
      go_wp2
      have hY:=and255_bd ((x:Int)+(C:Int))
      obtain ⟨y,hy⟩:=Int.eq_ofNat_of_zero_le hY.1
      have hs2:=(cur_set Hb1.out (.int .i64 ((I:Int)+1))).2
      go_ret
      refine ⟨y,ret_int hy,by omega,Hc.out.step (grw_trans Hg1.out (grw_drewN hs2.2 _)) ((I:Int)+1) H hs2.1 (by omega) (by omega) hH0 hH1,grw_trans Hg1.out (grw_drewN hs2.2 _)⟩
  · have hd:¬ (I:Int) < (code.length:Int):=by omega
    go_quiet (fail)
    go_wp2
    go_ret
    exact ⟨x,rfl,hx,Hc.out.step (grw_drewN Hg1.out _) _ _ Hb1.out (by omega) (by omega) hH0 hH1,grw_drewN Hg1.out _⟩
theorem Cur.below {B:Nat} {w0 w w':World} {g:Nat} {cv:Value} {code:List UInt8} (hc:Cur w0 w g cv code) (hb:Below B w w') (hg:g < B):Cur w0 w' g cv code:=by
  obtain ⟨i,h,hbk,r⟩:=hc.blk
  exact ⟨hc.rd,hc.bel.trans (hb.mono (by have:=hc.le;omega)),hc.le,⟨i,h,by rw [hb.block g hg];exact hbk,r⟩⟩
theorem Cur.lt {w0 w:World} {g:Nat} {cv:Value} {code:List UInt8} (hc:Cur w0 w g cv code):g < w.heap.size:=by
  obtain ⟨i,h,hbk,r⟩:=hc.blk
  exact (Array.getElem?_eq_some_iff.1 hbk).1
theorem grw_below {B:Nat} {a b c:World} {row:Option Nat} (h:a.grownBy b row) (k:Below B b c) (hB:a.heap.size<=B):a.grownBy c row :=
  ⟨k.os.trans h.os,k.tape.trans h.tape,k.output.trans h.output,Nat.le_trans h.size k.size,fun i hi hr=>(k.block i (by omega)).trans (h.block i hi hr)⟩
theorem grw_of_below {B:Nat} {a b:World} (row:Option Nat) (k:Below B a b) (hB:a.heap.size<=B):a.grownBy b row :=
  ⟨k.os,k.tape,k.output,k.size,fun i hi _=>k.block i (by omega)⟩
theorem l1Below_any (w0 w:World) (g:Nat) (cv:Value) (code:List UInt8) (n:Int) (hc:Cur w0 w g cv code) (hl:code.length<=1048576) (h1:-9223372036854775808<=n) (h2:n<=9223372036854775807) :
    Calls Tryz.prog 68 #[.pointer (some ⟨g,0,none⟩),.int .i64 n] w fun e w'=>∃ x:Nat,e=.returned (.int .i64 (x:Int))/\(0 < n->(x:Int) < n)/\(n<=0->x=0)/\Cur w0 w' g cv code/\w.grownBy w' (some g):=by
  have Hc:=hide hc
  clear hc
  by_cases hn:n<=0
  · go_enter Tryz.func68,Tryz.ntmps68
    go_wp2
    go_ret
    exact ⟨0,rfl,fun h=>by omega,fun _=>rfl,Hc.out,World.grownBy.refl _ _⟩
  · by_cases hn2:n<=256
    · have hn0:(n == 0)=false:=by rw [beq_eq_false_iff_ne];omega
      go_enter Tryz.func68,Tryz.ntmps68
      go_wp2_with fail
      refine (l1Byte_any _ _ _ _ _ Hc.out hl).mono ?_
      rintro e w1 ⟨x,rfl,hx,hc1,hg1⟩
      have hm:=Int.emod_nonneg (x:Int) (show n ≠ 0 from by omega)
      have hm2:=Int.emod_lt_of_pos (x:Int) (show 0 < n from by omega)
      go_wp2
      go_ret
      obtain ⟨y,hy⟩:=Int.eq_ofNat_of_zero_le hm
      exact ⟨y,ret_int hy,fun _=>by omega,fun h=>by omega,hc1,hg1⟩
    · have hn0:(n == 0)=false:=by rw [beq_eq_false_iff_ne];omega
      go_enter Tryz.func68,Tryz.ntmps68
      go_wp2_with fail
      refine (l1Byte_any _ _ _ _ _ Hc.out hl).mono ?_
      rintro e w1 ⟨x,rfl,hx,hc1,hg1⟩
      go_wp2_with fail
      refine (l1Byte_any _ _ _ _ _ hc1 hl).mono ?_
      rintro e w2 ⟨y,rfl,hy,hc2,hg2⟩
      go_wp2_with fail
      refine (l1Byte_any _ _ _ _ _ hc2 hl).mono ?_
      rintro e w3 ⟨z,rfl,hz,hc3,hg3⟩
      have hs0:0<=(x:Int) * 65536+(y:Int) * 256+(z:Int):=by omega
      have hm:=Int.emod_nonneg ((x:Int) * 65536+(y:Int) * 256+(z:Int)) (show n ≠ 0 from by omega)
      have hm2:=Int.emod_lt_of_pos ((x:Int) * 65536+(y:Int) * 256+(z:Int)) (show 0 < n from by omega)
      go_wp2
      go_ret
      obtain ⟨r,hr⟩:=Int.eq_ofNat_of_zero_le hm
      exact ⟨r,ret_int hr,fun _=>by omega,fun h=>by omega,hc3,grw_trans (grw_trans hg1 hg2) hg3⟩
def IntsAt (w:World) (b:Nat) (ns:List Int):Prop:=b < w.heap.size/\∀ j (h:j < ns.length),w.cell? ⟨b,j,none⟩=some (.int .i64 ns[j])
theorem ints_new (w:World) (ns:List Int) (t:TypeId):IntsAt (w.alloc (.cells (ns.map (Value.int .i64)).toArray t)) w.heap.size ns:=by
  refine ⟨by simp,fun j hj=>?_⟩
  rw [World.cell?_alloc_at _ _ _ _ rfl]
  simp [hj]
theorem IntsAt.grw {w w':World} {b g:Nat} {ns:List Int} (h:IntsAt w b ns) (hg:w.grownBy w' (some g)) (hne:b ≠ g):IntsAt w' b ns :=
  ⟨by have:=hg.size;have:=h.1;omega,fun j hj=>hg.cell (a:=⟨b,j,none⟩) (h.2 j hj) (by simp [hne])⟩
theorem l1Int_any (w0 w:World) (g b:Nat) (cv:Value) (code:List UInt8) (ns:List Int) (hc:Cur w0 w g cv code) (hl:code.length<=1048576) (hi:IntsAt w b ns) (hne:b ≠ g) (hn:0 < ns.length) (hn2:ns.length<=1000) (cap:Nat) :
    Calls Tryz.prog 123 #[.pointer (some ⟨g,0,none⟩),.slice (some ⟨b,0,none⟩) ns.length cap] w fun e w'=>∃ n:Int,e=.returned (.int .i64 n)/\n ∈ ns/\Cur w0 w' g cv code/\w.grownBy w' (some g):=by
  have Hc:=hide hc
  have Hi:=hide hi
  clear hc hi
  go_enter Tryz.func123,Tryz.ntmps123
  go_wp2_with fail
  refine (l1Below_any _ _ _ _ _ _ Hc.out hl (by omega) (by omega)).mono ?_
  rintro e w1 ⟨x,rfl,hx1,hx2,hc1,hg1⟩
  have hxl:x < ns.length:=by have:=hx1 (by omega);omega
  have hcell:=(Hi.out.grw hg1 hne).2 x hxl
  have hmem:=hide (List.getElem_mem hxl)
  generalize ns[x]=n at hcell hmem
  clear hx1 hx2
  go_wp2
  go_ret
  exact ⟨n,rfl,hmem.out,hc1,hg1⟩
theorem andM_bd (x:Int):0<=bits .and .i64 x 1073741823/\bits .and .i64 x 1073741823<=1073741823:=by
  show 0<=IntKind.i64.wrap ((BitVec.ofInt 64 x &&& BitVec.ofInt 64 1073741823).toNat:Int)/\IntKind.i64.wrap ((BitVec.ofInt 64 x &&& BitVec.ofInt 64 1073741823).toNat:Int)<=1073741823
  have h:(BitVec.ofInt 64 x &&& BitVec.ofInt 64 1073741823).toNat<=1073741823:=by
    rw [BitVec.toNat_and]
    exact Nat.le_trans Nat.and_le_right (by decide)
  rw [IntKind.wrap_i64]
  omega
theorem cur_new (w:World) (cv:Value) (code:List UInt8) (h:Int) (hr:RdB w cv code) (h1:-9223372036854775808<=h) (h2:h<=9223372036854775807) :
    Cur w (w.alloc (.cells #[cv,.int .i64 0,.int .i64 h] 160)) w.heap.size cv code/\Below w.heap.size w (w.alloc (.cells #[cv,.int .i64 0,.int .i64 h] 160)) :=
  ⟨⟨hr,(Below.refl _ _).alloc (Nat.le_refl _) _,Nat.le_refl _,⟨0,h,heap_alloc_new w _,by omega,by omega,h1,h2⟩⟩,(Below.refl _ _).alloc (Nat.le_refl _) _⟩
theorem l1New_any (w:World) (cv:Value) (code:List UInt8) (hr:RdB w cv code) (hl:code.length<=1048576) :
    Calls Tryz.prog 46 #[cv] w fun e w'=>e=.returned (.pointer (some ⟨w.heap.size,0,none⟩))/\Cur w w' w.heap.size cv code/\Below w.heap.size w w':=by
  have Hn:=hide (fun h h1 h2=>cur_new w cv code h hr h1 h2)
  rcases hr with ⟨a,cap,rfl,rfl,-⟩ | ⟨b,off,cap,h0,rfl,h1,h2,h3,h4⟩
  · go_enter Tryz.func46,Tryz.ntmps46
    go_wp2
    refine wp_loop_rounds 1 ?_
    rw [rounds_succ]
    go_wp2
    go_ret
    exact ⟨rfl,Hn.out _ (by omega) (by omega)⟩
  · have H4:=hide h4
    clear h4
    go_enter Tryz.func46,Tryz.ntmps46
    go_wp2
    go_loop [3,4] (fun hv iv=>∃ (k:Nat) (h:Int),k<=code.length/\iv=.int .i64 (k:Int)/\hv=.int .i64 h/\0<=h/\h<=1073741823) (fun _ iv=>code.length - (intOf iv).toNat)
    case atStart=>exact ⟨0,_,Nat.zero_le _,rfl,rfl,by omega,by omega⟩
    case round =>
      obtain ⟨k,h,hk,rfl,rfl,hh0,hh1⟩:=hrel
      by_cases hlt:k < code.length
      · by_cases h4000:k < 4000
        · have hc:=H4.out k hlt
          have hcb:(code[k].toNat:Int) < 256:=by have:=code[k].toNat_lt;omega
          generalize code[k].toNat=C at hc hcb
          have hA:=andM_bd (h * 137+(C:Int)+11)
          go_wp2
          go_round
          case rel=>exact ⟨k+1,_,by omega,by go_num,rfl,hA.1,hA.2⟩
          case measure=>simp [intOf];omega
        · go_wp2
          go_ret
          exact ⟨rfl,Hn.out _ (by omega) (by omega)⟩
      · go_wp2
        go_ret
        exact ⟨rfl,Hn.out _ (by omega) (by omega)⟩
def tot (ls:List ByteArray):Nat:=(ls.map (fun s=>s.size)).sum
theorem tot_take:∀ (ls:List ByteArray) (k:Nat),tot (ls.take k)<=tot ls:=by
  intro ls
  induction ls with
  | nil=>intro k;simp [tot]
  | cons s t ih =>
    intro k
    cases k with
    | zero=>simp [tot]
    | succ k =>
      have:=ih k
      simp only [tot,List.take_succ_cons,List.map_cons,List.sum_cons] at this ⊢
      omega
theorem tot_at:∀ (ls:List ByteArray) (k:Nat) (h:k < ls.length),ls[k].size<=tot ls:=by
  intro ls
  induction ls with
  | nil=>intro k h;simp at h
  | cons s t ih =>
    intro k h
    cases k with
    | zero=>simp [tot]
    | succ k =>
      have:=ih k (by simpa using h)
      simp only [tot,List.getElem_cons_succ,List.map_cons,List.sum_cons] at this ⊢
      omega
def RdS (w:World) (v:Value) (l:List ByteArray):Prop :=
  (∃ a cap,v=.slice a 0 cap/\l=[]/\(a=none->cap=0)) \/
  ∃ b off cap,l ≠ []/\v=.slice (some ⟨b,off,none⟩) l.length cap/\l.length<=cap/\cap<=maxLen/\b < w.heap.size/\∀ i (h:i < l.length),w.cell? ⟨b,off+i,none⟩=some (.string l[i])
theorem RdS.shape {w:World} {v:Value} {l:List ByteArray} (h:RdS w v l):∃ a cap,v=.slice a l.length cap:=by
  rcases h with ⟨a,cap,rfl,rfl,-⟩ | ⟨b,off,cap,h0,rfl,_⟩
  · exact ⟨a,cap,rfl⟩
  · exact ⟨_,cap,rfl⟩
theorem rd_one_str (w:World) (s:ByteArray):RdS (w.alloc (.cells #[.string s] 9)) (.slice (some ⟨w.heap.size,0,none⟩) 1 1) [s]:=by
  refine .inr ⟨w.heap.size,0,1,by simp,rfl,by simp,by unfold maxLen;omega,by simp,?_⟩
  intro i hi
  simp only [List.length_cons,List.length_nil] at hi
  have:i=0:=by omega
  subst this
  simp [World.cell?_alloc_at]
def OwnS (base:Nat) (w:World) (v:Value) (l:List ByteArray):Prop:=w.ownsRow base 9 1 v l.length (l.map Value.string)
theorem OwnS.rd {base:Nat} {w:World} {v:Value} {l:List ByteArray} (h:OwnS base w v l):RdS w v l:=by
  rcases h.2 with ⟨hv,hn⟩ | ⟨g,cap,cur,hv,hb,hg,hnc,hcm,hcs,ht⟩
  · exact .inl ⟨none,0,hv,List.length_eq_zero_iff.1 hn,fun _=>rfl⟩
  · by_cases hl:l=[]
    · subst hl;exact .inl ⟨_,_,hv,rfl,fun h=>by cases h⟩
    · refine .inr ⟨g,0,cap,hl,hv,hnc,hcm,?_,?_⟩
      · exact (Array.getElem?_eq_some_iff.1 hg).1
      · intro i hi
        have h':w.ownsRow base 9 1 (.slice (some ⟨g,0,none⟩) l.length cap) l.length (l.map Value.string):=hv ▸ h
        rw [show 0+i=i from by omega,h'.cellAt i (by omega)]
        simp [hi]
theorem OwnS.below {B base:Nat} {w w':World} {v:Value} {l:List ByteArray} (h:OwnS base w v l) (hb:Below B w w') (hB:w.heap.size<=B):OwnS base w' v l:=by
  refine ⟨h.1,?_⟩
  rcases h.2 with h' | ⟨g,cap,cur,hv,hbb,hg,r⟩
  · exact .inl h'
  · refine .inr ⟨g,cap,cur,hv,hbb,?_,r⟩
    have hlt:g < w.heap.size:=(Array.getElem?_eq_some_iff.1 hg).1
    rw [hb.block g (by omega)];exact hg
theorem Tryz.infoStr:(Tryz.prog.info? 9).map (fun i=>(i.zero,i.size,i.bytes))=some (some (.string ByteArray.empty),1,16):=by kernel_rfl
theorem bytes_ne {a b:ByteArray} (h:a ≠ b):(a.toList == b.toList)=false:=by
  rw [beq_eq_false_iff_ne]
  intro e
  rw [ByteArray.toList_eq,ByteArray.toList_eq] at e
  exact h (ByteArray.ext (Array.toList_inj.1 e))
theorem own_nilS (w:World) (base:Nat) (h:base<=w.heap.size):OwnS base (w.alloc (.cells #[] 9)) (.slice (some ⟨w.heap.size,0,none⟩) 0 0) [] :=
  World.ownsRow_lit w #[] 0 h (by unfold maxLen;omega) (by simp)
theorem own_noneS (w:World) (base:Nat):OwnS base w (.slice none 0 0) []:=World.ownsRow_nil w base _ _
theorem OwnS.alloc {base:Nat} {w:World} {v:Value} {l:List ByteArray} (h:OwnS base w v l) (o:Obj):OwnS base (w.alloc o) v l:=World.ownsRow.alloc h o
theorem app_ownS {ops:Array Oper} {rest:List Oper} {o:Oper} {a:Act} {Q:Exit->Act->World->Prop} (w:World) (hgd:o.guard=none) (s x:Operand)
    (ho:o.op=.call { callee:=.builtin .append,args:=#[s,x],argTypes:=#[42,42] })
    (base:Nat) (v vx:Value) (l k:List ByteArray) (hs:a.eval s=v) (hx:a.eval x=vx) (hown:OwnS base w v l) (hrd:RdS w vx k)
    (hlen:l.length+k.length<=100000000) (hbase:base<=w.heap.size)
    (h:∀ v' w',OwnS base w' v' (l ++ k)->Below base w w'->wpList Tryz.prog ops Q rest (a.put o.dst v') w'):wpList Tryz.prog ops Q (o :: rest) a w:=by
  obtain ⟨i0,hi,hz0,hz1,hz2⟩:=info_parts Tryz.infoStr
  have hbel:∀ w',w.grownBy w' v.ownBlock->Below base w w':=fun w' hg=>(Below.refl _ _).grown hg hbase (fun k hk=>(World.ownsRow.lt hown k hk).1)
  rcases hrd with ⟨ax,cap,rfl,rfl,hnil⟩ | ⟨b,off,cap,h0,rfl,h1,h2,h3,h4⟩
  · cases ax with
    | none =>
      have hc:cap=0:=hnil rfl
      subst hc
      refine wpList_append_own_none hgd s x 42 ho base 9 i0 1 Tryz.underlying42 hi v l.length (l.map Value.string) hs hown hx ?_
      exact h v w (by simpa [OwnS] using hown) (Below.refl _ _)
    | some ad =>
      refine wpList_append_own w hgd s x 42 ho base 9 i0 (.string ByteArray.empty) 1 16 Tryz.underlying42 hi hz0 hz1 hz2 rfl (by decide) v l.length (l.map Value.string) hs hown ad 0 cap [] hx rfl (by intro j u hj;simp at hj) (by intro u hu;simp at hu) (by unfold maxLen;simp at hlen;omega) (by simp at hlen;omega) hbase ?_
      intro v' w' ho' hg _
      exact h v' w' (by simpa [OwnS] using ho') (hbel w' hg)
  · refine wpList_append_own w hgd s x 42 ho base 9 i0 (.string ByteArray.empty) 1 16 Tryz.underlying42 hi hz0 hz1 hz2 rfl (by decide) v l.length (l.map Value.string) hs hown ⟨b,off,none⟩ k.length cap (k.map Value.string) hx (by simp) ?_ ?_ (by unfold maxLen;omega) (by omega) hbase ?_
    · intro j u hj
      have hj':j < k.length:=by have:=(List.getElem?_eq_some_iff.1 hj).1;simpa using this
      have ea:(⟨b,off,none⟩:Addr).add j=⟨b,off+j,none⟩:=by
        by_cases hz:j=0
        · subst hz;simp [Addr.add]
        · simp [Addr.add,hz]
      rw [ea,h4 j hj']
      simp [hj'] at hj
      rw [<- hj]
    · intro u hu
      obtain ⟨c,_,rfl⟩:=List.mem_map.1 hu
      rfl
    · intro v' w' ho' hg _
      exact h v' w' (by simpa [OwnS] using ho') (hbel w' hg)
theorem Cur.drew {w0 w:World} {g:Nat} {cv:Value} {code:List UInt8} (hc:Cur w0 w g cv code):Cur w0 w.drew g cv code:=⟨hc.rd,hc.bel.drew,hc.le,hc.blk⟩
theorem OwnS.notg {base:Nat} {w w':World} {v:Value} {l:List ByteArray} {g:Nat} (h:OwnS base w v l) (hg:w.grownBy w' (some g)) (hb:g < base):OwnS base w' v l :=
  World.ownsRow.kept h hg (by right;intro e;have:=(World.ownsRow.lt h g e).1;omega)
theorem l1Once_any (w0 w:World) (g:Nat) (cv:Value) (code:List UInt8) (n:Int) (hc:Cur w0 w g cv code) (hl:code.length<=1048576) (h1:-9223372036854775808<=n) (h2:n<=9223372036854775807) :
    Calls Tryz.prog 67 #[.pointer (some ⟨g,0,none⟩),.int .i64 n] w fun e w'=>∃ b:Bool,e=.returned (.bool b)/\Cur w0 w' g cv code/\w.grownBy w' (some g):=by
  go_enter Tryz.func67,Tryz.ntmps67
  go_wp2_with fail
  refine (l1Below_any _ _ _ _ _ _ hc hl h1 h2).mono ?_
  rintro e w1 ⟨x,rfl,hx1,_,hc1,hg1⟩
  clear hx1
  go_wp2
  go_ret
  exact ⟨_,rfl,hc1,hg1⟩
theorem rd_one_str' (w:World) (n:Nat) (s:ByteArray) (h:n=w.heap.size):RdS (w.alloc (.cells #[.string s] 9)) (.slice (some ⟨n,0,none⟩) 1 1) [s]:=by
  subst h;exact rd_one_str w s
theorem flat_len {α:Type} (sz:Nat):∀ (L:List (List α)),(∀ x ∈ L,x.length=sz)->L.flatten.length=L.length * sz
  | [],_=>by simp
  | x :: L,h=>by
    rw [List.flatten_cons,List.length_append,flat_len sz L (fun y hy=>h y (List.mem_cons_of_mem _ hy)),h x (List.mem_cons_self),List.length_cons,Nat.add_mul,Nat.one_mul]
    omega
theorem flat_get {α:Type} (sz:Nat):∀ (L:List (List α)) (i j:Nat) (hi:i < L.length),(∀ x ∈ L,x.length=sz)->j < sz->L.flatten[i * sz+j]?=L[i][j]?
  | [],i,j,hi,_,_=>by simp at hi
  | x :: L,i,j,hi,h,hj=>by
    have hx:=h x (List.mem_cons_self)
    cases i with
    | zero =>
      rw [List.flatten_cons,Nat.zero_mul,Nat.zero_add,List.getElem?_append_left (by omega)]
      rfl
    | succ i =>
      rw [List.flatten_cons,List.getElem?_append_right (by rw [hx,Nat.add_mul];omega),hx,show (i+1) * sz+j - sz=i * sz+j from by rw [Nat.add_mul];omega]
      exact flat_get sz L i j (by simpa using hi) (fun y hy=>h y (List.mem_cons_of_mem _ hy)) hj
theorem flat_set {α:Type} (sz:Nat) (u:α):∀ (L:List (List α)) (i j:Nat) (hi:i < L.length),(∀ x ∈ L,x.length=sz)->j < sz->L.flatten.set (i * sz+j) u=(L.set i (L[i].set j u)).flatten
  | [],i,j,hi,_,_=>by simp at hi
  | x :: L,i,j,hi,h,hj=>by
    have hx:=h x (List.mem_cons_self)
    cases i with
    | zero =>
      rw [List.flatten_cons,Nat.zero_mul,Nat.zero_add,List.set_append_left _ _ (by omega)]
      rfl
    | succ i =>
      rw [List.flatten_cons,List.set_append_right _ _ (by rw [hx,Nat.add_mul];omega),hx,show (i+1) * sz+j - sz=i * sz+j from by rw [Nat.add_mul];omega]
      rw [flat_set sz u L i j (by simpa using hi) (fun y hy=>h y (List.mem_cons_of_mem _ hy)) hj]
      rfl
def part {α β:Type} (f:α->List β) (z:List β) (l:List α) (k:Nat):List (List β):=(l.take k).map f ++ List.replicate (l.length - k) z
def Blk (W:World) (B:Nat) (t:TypeId) (cs:List Value):Prop:=W.heap[B]?=some (.cells cs.toArray t (0,0))
theorem Blk.lt {W:World} {B:Nat} {t:TypeId} {cs:List Value} (h:Blk W B t cs):B < W.heap.size:=(Array.getElem?_eq_some_iff.1 h).1
theorem Blk.cell {W:World} {B:Nat} {t:TypeId} {cs:List Value} (h:Blk W B t cs) (j:Nat):W.cell? ⟨B,j,none⟩=cs[j]?:=by simp [World.cell?,show W.heap[B]?=_ from h]
theorem Blk.frozen {W:World} {B:Nat} {t:TypeId} {cs:List Value} (h:Blk W B t cs) (j:Nat):W.frozen? ⟨B,j,none⟩=false:=by simp [World.frozen?,show W.heap[B]?=_ from h]
theorem Blk.new (W:World) (t:TypeId) (cs:List Value):Blk (W.alloc (.cells cs.toArray t)) W.heap.size t cs:=heap_alloc_new W _
theorem Blk.below {W V:World} {B K:Nat} {t:TypeId} {cs:List Value} (h:Blk W B t cs) (hb:Below K W V) (hK:B < K):Blk V B t cs:=(hb.block B hK).trans h
theorem grown_set (w:World) (g j:Nat) (u:Value):w.grownBy (w.setCell ⟨g,j,none⟩ u) (some g) :=
  ⟨rfl,rfl,rfl,by simp,fun k _ hk=>heap_setCell_other w ⟨g,j,none⟩ k u (fun e=>hk (by simp [e]))⟩
theorem row_set {base:Nat} {w:World} {e:TypeId} {size:Nat} {v:Value} {n:Nat} {xs:List Value} (h:w.ownsRow base e size v n xs) (g j:Nat) (u:Value) (hne:∀ k,v.ownBlock=some k->k ≠ g):(w.setCell ⟨g,j,none⟩ u).ownsRow base e size v n xs:=by
  refine World.ownsRow.kept h (grown_set w g j u) ?_
  cases hv:v.ownBlock with
  | none=>exact .inl rfl
  | some k=>exact .inr (fun e=>hne k hv (by injection e))
theorem row_below {B base:Nat} {w w':World} {e:TypeId} {size:Nat} {v:Value} {n:Nat} {xs:List Value} (h:w.ownsRow base e size v n xs) (hb:Below B w w') (hB:w.heap.size<=B):w'.ownsRow base e size v n xs:=by
  refine ⟨h.1,?_⟩
  rcases h.2 with h' | ⟨g,cap,cur,hv,hbb,hg,r⟩
  · exact .inl h'
  · refine .inr ⟨g,cap,cur,hv,hbb,?_,r⟩
    have hlt:g < w.heap.size:=(Array.getElem?_eq_some_iff.1 hg).1
    rw [hb.block g (by omega)];exact hg
def prt {α:Type} (L:List (List α)) (z:List α) (n:Nat):List (List α):=L ++ List.replicate (n - L.length) z
theorem flat_put5 {α:Type} (L:List (List α)) (i:Nat) (a b c d e:α) (hi:i < L.length) (h:∀ x ∈ L,x.length=5):((((L.flatten.set (i * 5) a).set (i * 5+1) b).set (i * 5+2) c).set (i * 5+3) d).set (i * 5+4) e=(L.set i [a,b,c,d,e]).flatten:=by
  have st:∀ (M:List (List α)) (y:List α) (j:Nat) (u:α),M.length=L.length->(∀ x ∈ M,x.length=5)->y.length=5->j < 5->(M.set i y).flatten.set (i * 5+j) u=(M.set i (y.set j u)).flatten:=by
    intro M y j u hM hx hy hj
    have hS:∀ x ∈ M.set i y,x.length=5:=fun x hm=>by
      rcases List.mem_or_eq_of_mem_set hm with h' | rfl
      · exact hx x h'
      · exact hy
    rw [flat_set 5 u (M.set i y) i j (by rw [List.length_set,hM];exact hi) hS hj,List.set_set]
    simp only [List.getElem_set_self]
  have hl:=h L[i] (List.getElem_mem hi)
  have e0:L=L.set i L[i]:=by simp
  have r0:=st L L[i] 0 a rfl h hl (by omega)
  rw [<- e0,Nat.add_zero] at r0
  rw [r0,st L _ 1 b rfl h (by simp [hl]) (by omega),st L _ 2 c rfl h (by simp [hl]) (by omega),st L _ 3 d rfl h (by simp [hl]) (by omega),st L _ 4 e rfl h (by simp [hl]) (by omega)]
  congr 2
  match hx:L[i],hl with
  | [y0,y1,y2,y3,y4],_=>rfl
end Go.Proofs.YtohachldbpejpaaGreatDoor
