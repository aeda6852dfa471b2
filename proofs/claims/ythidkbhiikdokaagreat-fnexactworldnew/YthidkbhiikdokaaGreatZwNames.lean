/- What is a name. -/
import Derived.Test.YthidkbhiikdokaaGreatZwAcOpen
set_option maxRecDepth 20000
set_option maxHeartbeats 2000000
namespace Go.Proofs.YthidkbhiikdokaaGreat
open Go.RowKit
set_option linter.unusedVariables false
open Classical in
theorem eqAcctS_any (v1 v2:Value) (l1 l2:List Ac) (w:World) (hr1:RdA w v1 l1) (hr2:RdA w v2 l2) (hl1:l1.length<=4000000) (hl2:l2.length<=4000000) (ha1:∀ a ∈ l1,a.2.2.2.2.length<=4000000) (ha2:∀ a ∈ l2,a.2.2.2.2.length<=4000000) :
    Calls Tryz.prog 33 #[v1,v2] w fun e w'=>e=.returned (.bool (decide (l1=l2)))/\Below w.heap.size w w':=by
  by_cases hne:l1.length=l2.length
  · rcases hr1 with ⟨a,cap,rfl,rfl,-⟩ | ⟨b,off,cap,h0,rfl,h1,h2,h3,h4⟩
    · have e2:l2=[]:=List.length_eq_zero_iff.1 (by simpa using hne.symm)
      subst e2
      obtain ⟨a2,cap2,rfl⟩:=hr2.shape
      clear hr2
      go_enter Tryz.func33,Tryz.ntmps33
      go_wp2
      refine wp_loop_rounds 1 ?_
      rw [rounds_succ]
      go_wp2
      go_ret
      exact ⟨rfl,Below.refl _ _⟩
    · rcases hr2 with ⟨a2,cap2,rfl,rfl,-⟩ | ⟨b2,off2,cap2,g0,rfl,g1,g2,g3,g4⟩
      · exact absurd (List.length_eq_zero_iff.1 (by simpa using hne)) h0
      · have Hne:=hide hne
        have hlen:((l1.length:Int) != (l2.length:Int))=false:=by rw [hne];simp
        have hle:l1.length<=l2.length:=by omega
        have hge:l2.length<=l1.length:=by omega
        have H4:=hide h4
        have G4:=hide g4
        have A1:=hide ha1
        have A2:=hide ha2
        clear hne h4 g4 ha1 ha2
        go_enter Tryz.func33,Tryz.ntmps33
        go_wp2
        go_loopw [5] (fun i wr=>∃ k:Nat,k<=l1.length/\i=.int .i64 k/\l1.take k=l2.take k/\Below w.heap.size w wr) (fun i _=>l1.length - (intOf i).toNat)
        case atStart=>exact ⟨0,Nat.zero_le _,rfl,rfl,Below.refl _ _⟩
        case round =>
          obtain ⟨k,hk,rfl,ht,hs⟩:=hrel
          have Ht:=hide ht
          clear ht
          by_cases hlt:k < l1.length
          · have hlt2:k < l2.length:=by omega
            obtain ⟨la,ca,ra⟩:=H4.out k hlt
            obtain ⟨lb,cb',rb⟩:=G4.out k hlt2
            obtain ⟨c0,c1,c2,c3,c4⟩:=ca.below hs.drew h3
            obtain ⟨d0,d1,d2,d3,d4⟩:=cb'.below hs.drew g3
            have hli:(k:Int) < (l1.length:Int):=by omega
            have hli2:(k:Int) < (l2.length:Int):=by omega
            have HE:=hide (eqAcct_any l1[k] l2[k] la lb wr.drew (ra.below hs.drew (Nat.le_refl _)) (rb.below hs.drew (Nat.le_refl _)) (A1.out _ (List.getElem_mem _)) (A2.out _ (List.getElem_mem _)))
            have Hnx:Hid (l1[k]=l2[k]->l1.take (k+1)=l2.take (k+1)):=hide (fun he=>take_eq_snoc hlt hlt2 Ht.out he)
            have Hno:Hid (l1[k] ≠ l2[k]->decide (l1=l2)=false):=hide (fun he=>by rw [decide_eq_false];intro e;subst e;exact he rfl)
            have sa:=ra.shape
            have sb:=rb.shape
            clear ra rb ca cb'
            generalize hp:l1[k]=p at c0 c1 c2 c3 HE Hnx Hno sa
            generalize hq:l2[k]=q at d0 d1 d2 d3 HE Hnx Hno sb
            clear hp hq
            have hS1:wr.drew.cell? ⟨b,off+k * 5,none⟩=some (.string p.1)/\wr.drew.cell? ⟨b,off+k * 5+1,none⟩=some (.int .i64 p.2.1)/\wr.drew.cell? ⟨b,off+k * 5+2,none⟩=some (.int .i64 p.2.2.1)/\wr.drew.cell? ⟨b,off+k * 5+3,none⟩=some (.int .i64 p.2.2.2.1)/\wr.drew.cell? ⟨b,off+k * 5+4,none⟩=some la/\wr.drew.cell? ⟨b2,off2+k * 5,none⟩=some (.string q.1)/\wr.drew.cell? ⟨b2,off2+k * 5+1,none⟩=some (.int .i64 q.2.1)/\wr.drew.cell? ⟨b2,off2+k * 5+2,none⟩=some (.int .i64 q.2.2.1)/\wr.drew.cell? ⟨b2,off2+k * 5+3,none⟩=some (.int .i64 q.2.2.2.1)/\wr.drew.cell? ⟨b2,off2+k * 5+4,none⟩=some lb:=⟨c0,c1,c2,c3,c4,d0,d1,d2,d3,d4⟩
            obtain ⟨xa,ya,rfl⟩:=sa
            obtain ⟨xb,yb,rfl⟩:=sb
            unfold acV at HE
            clear c0 c1 c2 c3 c4 d0 d1 d2 d3 d4
            by_cases he:p=q
            · rw [decide_eq_true he] at HE
              have Hnx:=hide (Hnx.out he)
              clear he Hno
              go_wp2
              go_region_held_law (fun w'=>w'.cell? ⟨b,off+k * 5,none⟩=some (.string p.1)/\w'.cell? ⟨b,off+k * 5+1,none⟩=some (.int .i64 p.2.1)/\w'.cell? ⟨b,off+k * 5+2,none⟩=some (.int .i64 p.2.2.1)/\w'.cell? ⟨b,off+k * 5+3,none⟩=some (.int .i64 p.2.2.2.1)/\w'.cell? ⟨b,off+k * 5+4,none⟩=some (.slice xa p.2.2.2.2.length ya)/\w'.cell? ⟨b2,off2+k * 5,none⟩=some (.string q.1)/\w'.cell? ⟨b2,off2+k * 5+1,none⟩=some (.int .i64 q.2.1)/\w'.cell? ⟨b2,off2+k * 5+2,none⟩=some (.int .i64 q.2.2.1)/\w'.cell? ⟨b2,off2+k * 5+3,none⟩=some (.int .i64 q.2.2.2.1)/\w'.cell? ⟨b2,off2+k * 5+4,none⟩=some (.slice xb q.2.2.2.2.length yb)) (first | exact hS1 | exact hS2) ((go_at_call 64;refine HE.out.mono ?_;rintro e w2 ⟨rfl,hb2⟩;have hz:=hs.size;have hS2:w2.cell? ⟨b,off+k * 5,none⟩=some (.string p.1)/\w2.cell? ⟨b,off+k * 5+1,none⟩=some (.int .i64 p.2.1)/\w2.cell? ⟨b,off+k * 5+2,none⟩=some (.int .i64 p.2.2.1)/\w2.cell? ⟨b,off+k * 5+3,none⟩=some (.int .i64 p.2.2.2.1)/\w2.cell? ⟨b,off+k * 5+4,none⟩=some (.slice xa p.2.2.2.2.length ya)/\w2.cell? ⟨b2,off2+k * 5,none⟩=some (.string q.1)/\w2.cell? ⟨b2,off2+k * 5+1,none⟩=some (.int .i64 q.2.1)/\w2.cell? ⟨b2,off2+k * 5+2,none⟩=some (.int .i64 q.2.2.1)/\w2.cell? ⟨b2,off2+k * 5+3,none⟩=some (.int .i64 q.2.2.2.1)/\w2.cell? ⟨b2,off2+k * 5+4,none⟩=some (.slice xb q.2.2.2.2.length yb):=⟨(hb2.cell (p:=⟨b,off+k * 5,none⟩) (Nat.lt_of_lt_of_le h3 hz)).trans hS1.1,(hb2.cell (p:=⟨b,off+k * 5+1,none⟩) (Nat.lt_of_lt_of_le h3 hz)).trans hS1.2.1,(hb2.cell (p:=⟨b,off+k * 5+2,none⟩) (Nat.lt_of_lt_of_le h3 hz)).trans hS1.2.2.1,(hb2.cell (p:=⟨b,off+k * 5+3,none⟩) (Nat.lt_of_lt_of_le h3 hz)).trans hS1.2.2.2.1,(hb2.cell (p:=⟨b,off+k * 5+4,none⟩) (Nat.lt_of_lt_of_le h3 hz)).trans hS1.2.2.2.2.1,(hb2.cell (p:=⟨b2,off2+k * 5,none⟩) (Nat.lt_of_lt_of_le g3 hz)).trans hS1.2.2.2.2.2.1,(hb2.cell (p:=⟨b2,off2+k * 5+1,none⟩) (Nat.lt_of_lt_of_le g3 hz)).trans hS1.2.2.2.2.2.2.1,(hb2.cell (p:=⟨b2,off2+k * 5+2,none⟩) (Nat.lt_of_lt_of_le g3 hz)).trans hS1.2.2.2.2.2.2.2.1,(hb2.cell (p:=⟨b2,off2+k * 5+3,none⟩) (Nat.lt_of_lt_of_le g3 hz)).trans hS1.2.2.2.2.2.2.2.2.1,(hb2.cell (p:=⟨b2,off2+k * 5+4,none⟩) (Nat.lt_of_lt_of_le g3 hz)).trans hS1.2.2.2.2.2.2.2.2.2⟩))
              go_wp2
              go_roundw
              case rel=>exact ⟨k+1,by omega,by go_num,Hnx.out,hs.drew.trans (hb2.mono hs.size)⟩
              case measure=>simp [intOf];omega
            · rw [decide_eq_false he] at HE
              have Hno:=hide (Hno.out he)
              clear he Hnx
              go_wp2
              go_region_held_law (fun w'=>w'.cell? ⟨b,off+k * 5,none⟩=some (.string p.1)/\w'.cell? ⟨b,off+k * 5+1,none⟩=some (.int .i64 p.2.1)/\w'.cell? ⟨b,off+k * 5+2,none⟩=some (.int .i64 p.2.2.1)/\w'.cell? ⟨b,off+k * 5+3,none⟩=some (.int .i64 p.2.2.2.1)/\w'.cell? ⟨b,off+k * 5+4,none⟩=some (.slice xa p.2.2.2.2.length ya)/\w'.cell? ⟨b2,off2+k * 5,none⟩=some (.string q.1)/\w'.cell? ⟨b2,off2+k * 5+1,none⟩=some (.int .i64 q.2.1)/\w'.cell? ⟨b2,off2+k * 5+2,none⟩=some (.int .i64 q.2.2.1)/\w'.cell? ⟨b2,off2+k * 5+3,none⟩=some (.int .i64 q.2.2.2.1)/\w'.cell? ⟨b2,off2+k * 5+4,none⟩=some (.slice xb q.2.2.2.2.length yb)) (first | exact hS1 | exact hS2) ((go_at_call 64;refine HE.out.mono ?_;rintro e w2 ⟨rfl,hb2⟩;have hz:=hs.size;have hS2:w2.cell? ⟨b,off+k * 5,none⟩=some (.string p.1)/\w2.cell? ⟨b,off+k * 5+1,none⟩=some (.int .i64 p.2.1)/\w2.cell? ⟨b,off+k * 5+2,none⟩=some (.int .i64 p.2.2.1)/\w2.cell? ⟨b,off+k * 5+3,none⟩=some (.int .i64 p.2.2.2.1)/\w2.cell? ⟨b,off+k * 5+4,none⟩=some (.slice xa p.2.2.2.2.length ya)/\w2.cell? ⟨b2,off2+k * 5,none⟩=some (.string q.1)/\w2.cell? ⟨b2,off2+k * 5+1,none⟩=some (.int .i64 q.2.1)/\w2.cell? ⟨b2,off2+k * 5+2,none⟩=some (.int .i64 q.2.2.1)/\w2.cell? ⟨b2,off2+k * 5+3,none⟩=some (.int .i64 q.2.2.2.1)/\w2.cell? ⟨b2,off2+k * 5+4,none⟩=some (.slice xb q.2.2.2.2.length yb):=⟨(hb2.cell (p:=⟨b,off+k * 5,none⟩) (Nat.lt_of_lt_of_le h3 hz)).trans hS1.1,(hb2.cell (p:=⟨b,off+k * 5+1,none⟩) (Nat.lt_of_lt_of_le h3 hz)).trans hS1.2.1,(hb2.cell (p:=⟨b,off+k * 5+2,none⟩) (Nat.lt_of_lt_of_le h3 hz)).trans hS1.2.2.1,(hb2.cell (p:=⟨b,off+k * 5+3,none⟩) (Nat.lt_of_lt_of_le h3 hz)).trans hS1.2.2.2.1,(hb2.cell (p:=⟨b,off+k * 5+4,none⟩) (Nat.lt_of_lt_of_le h3 hz)).trans hS1.2.2.2.2.1,(hb2.cell (p:=⟨b2,off2+k * 5,none⟩) (Nat.lt_of_lt_of_le g3 hz)).trans hS1.2.2.2.2.2.1,(hb2.cell (p:=⟨b2,off2+k * 5+1,none⟩) (Nat.lt_of_lt_of_le g3 hz)).trans hS1.2.2.2.2.2.2.1,(hb2.cell (p:=⟨b2,off2+k * 5+2,none⟩) (Nat.lt_of_lt_of_le g3 hz)).trans hS1.2.2.2.2.2.2.2.1,(hb2.cell (p:=⟨b2,off2+k * 5+3,none⟩) (Nat.lt_of_lt_of_le g3 hz)).trans hS1.2.2.2.2.2.2.2.2.1,(hb2.cell (p:=⟨b2,off2+k * 5+4,none⟩) (Nat.lt_of_lt_of_le g3 hz)).trans hS1.2.2.2.2.2.2.2.2.2⟩))
              go_wp2
              go_ret
              exact ⟨ret_bool Hno.out.symm,hs.drew.trans (hb2.mono hs.size)⟩
          · have hf:Hid (decide (l1=l2)=true):=hide (by
              rw [decide_eq_true]
              have:=Ht.out
              rwa [List.take_of_length_le (by omega),List.take_of_length_le (by omega)] at this)
            go_wp2
            go_ret
            exact ⟨ret_bool hf.out.symm,hs⟩
  · obtain ⟨a,cap,rfl⟩:=hr1.shape
    obtain ⟨a2,cap2,rfl⟩:=hr2.shape
    clear hr1 hr2
    have hlen:((l1.length:Int) != (l2.length:Int))=true:=by rw [bne_iff_ne];omega
    have hf:Hid (decide (l1=l2)=false):=hide (by rw [decide_eq_false];intro e;subst e;exact hne rfl)
    clear hne
    go_enter Tryz.func33,Tryz.ntmps33
    go_wp2
    go_ret
    exact ⟨ret_bool hf.out.symm,Below.refl _ _⟩
def wgA (a:Ac):Nat:=a.1.size+a.2.2.2.2.length
def totA (l:List Ac):Nat:=(l.map wgA).sum
theorem totA_snoc (l:List Ac) (k:Nat) (h:k < l.length):totA (l.take (k+1))=totA (l.take k)+wgA l[k]:=by
  unfold totA
  rw [List.take_succ_eq_append_getElem h,List.map_append,List.sum_append]
  simp only [List.map_cons,List.map_nil,List.sum_cons,List.sum_nil,Nat.add_zero]
theorem totA_at:∀ (l:List Ac) (a:Ac),a ∈ l->wgA a<=totA l
  | [],a,h=>by simp at h
  | b :: l,a,h=>by
    have e:totA (b :: l)=wgA b+totA l:=by simp [totA]
    rw [e]
    rcases List.mem_cons.1 h with rfl | h
    · omega
    · have:=totA_at l a h;omega
theorem szAc_fit (a:Ac) (r:Nat) (h:wgA a<=r):szAc a (r:Int)=((r - wgA a:Nat):Int):=by
  unfold wgA at h
  unfold szAc wgA
  rw [if_neg (by omega),if_neg (by omega)]
  omega
theorem szAc_not (a:Ac) (r:Nat) (h:¬ wgA a<=r):szAc a (r:Int)=-1:=by
  unfold wgA at h
  unfold szAc
  by_cases h1:(r:Int) - a.1.size < 0
  · rw [if_pos h1]
  · rw [if_neg h1,if_pos (by omega)]
theorem szAcctS_any (v:Value) (l:List Ac) (m:Nat) (w:World) (hr:RdA w v l) (hm:m<=100000000) (hl:l.length<=9223372036854775807) (hs:∀ a ∈ l,a.1.size<=9223372036854775807/\a.2.2.2.2.length<=9223372036854775807) :
    Calls Tryz.prog 17 #[v,.int .i64 (m:Int)] w fun e w'=>∃ r:Int,e=.returned (.int .i64 r)/\(0<=r->l.length+totA l<=m/\r<=(m:Int))/\Below w.heap.size w w':=by
  by_cases hn:m < l.length
  · obtain ⟨a,cap,rfl⟩:=hr.shape
    clear hr hs
    go_enter Tryz.func17,Tryz.ntmps17
    go_wp2
    go_ret
    exact ⟨_,rfl,fun h=>by omega,Below.refl _ _⟩
  · rcases hr with ⟨a,cap,rfl,rfl,-⟩ | ⟨b,off,cap,h0,rfl,h1,h2,h3,h4⟩
    · go_enter Tryz.func17,Tryz.ntmps17
      go_wp2
      refine wp_loop_rounds 1 ?_
      rw [rounds_succ]
      go_wp2
      go_ret
      exact ⟨_,rfl,fun _=>⟨by simp [totA],by simp⟩,Below.refl _ _⟩
    · have Hs:=hide hs
      have H4:=hide h4
      clear hs h4
      go_enter Tryz.func17,Tryz.ntmps17
      go_wp2
      go_loopw [1,5] (fun mv iv wr=>∃ k r:Nat,k<=l.length/\iv=.int .i64 (k:Int)/\mv=.int .i64 (r:Int)/\l.length+totA (l.take k)+r=m/\Below w.heap.size w wr) (fun _ iv _=>l.length - (intOf iv).toNat)
      case atStart=>exact ⟨0,m - l.length,Nat.zero_le _,rfl,by go_num,by simp [totA];omega,Below.refl _ _⟩
      case round =>
        obtain ⟨k,r,hk,rfl,rfl,hrem,hb⟩:=hrel
        have Hrem:=hide hrem
        have hrm:r<=m:=by omega
        clear hrem
        by_cases hlt:k < l.length
        · obtain ⟨lv,hat,hrl⟩:=H4.out k hlt
          obtain ⟨c0,c1,c2,c3,c4⟩:=hat.below hb h3
          have hsz:=Hs.out l[k] (List.getElem_mem hlt)
          have Hsn:=hide (totA_snoc l k hlt)
          have HZ:=hide (szAcct_any l[k] lv (r:Int) wr (hrl.below hb (Nat.le_refl _)) (by omega) (by omega) hsz.1 hsz.2)
          have hshape:=hrl.shape
          have hli:(k:Int) < (l.length:Int):=by omega
          by_cases hfit:wgA l[k]<=r
          · rw [szAc_fit _ _ hfit] at HZ
            obtain ⟨q,hq⟩:∃ q,r - wgA l[k]=q:=⟨_,rfl⟩
            have Hq:Hid (wgA l[k]+q=r):=hide (by omega)
            rw [hq] at HZ
            clear hfit hsz hrl hat hq
            generalize l[k]=ak at c0 c1 c2 c3 HZ hshape Hsn Hq
            obtain ⟨nm,fr,no,st,ls⟩:=ak
            obtain ⟨av,cv,rfl⟩:=hshape
            simp only [acV] at c0 c1 c2 c3 HZ
            go_wp2_with (go_at_call 46;refine HZ.out.mono ?_;rintro e w2 ⟨rfl,hb2⟩)
            go_roundw
            case rel=>exact ⟨k+1,q,by omega,by go_num,rfl,by rw [Hsn.out];have:=Hrem.out;have:=Hq.out;omega,hb.trans (hb2.mono hb.size)⟩
            case measure=>simp [intOf];omega
          · rw [szAc_not _ _ hfit] at HZ
            clear hfit hsz hrl hat
            generalize l[k]=ak at c0 c1 c2 c3 HZ hshape Hsn
            obtain ⟨nm,fr,no,st,ls⟩:=ak
            obtain ⟨av,cv,rfl⟩:=hshape
            simp only [acV] at c0 c1 c2 c3 HZ
            go_wp2_with (go_at_call 46;refine HZ.out.mono ?_;rintro e w2 ⟨rfl,hb2⟩)
            go_ret
            exact ⟨_,rfl,fun h=>by omega,hb.trans (hb2.mono hb.size)⟩
        · have hf:Hid (l.length+totA l<=m/\(r:Int)<=(m:Int)):=hide (by
            have h:=Hrem.out
            rw [List.take_of_length_le (by omega)] at h
            omega)
          go_wp2
          go_ret
          exact ⟨_,rfl,fun _=>hf.out,hb⟩
def atF (s:ByteArray):List Ac->Nat->Int
  | [],_=>-1
  | a :: l,n=>if a.1=s then (n:Int) else atF s l (n+1)
def atA (l:List Ac) (s:ByteArray):Int:=atF s l 0
def ofA (a:Ac):Int:=(a.2.2.2.2).foldl (fun s p=>wrap64 (s+p.1)) (wrap64 (a.2.1+a.2.2.2.1))
def wealthA (l:List Ac):Int:=l.foldl (fun s a=>wrap64 (s+ofA a)) 0
theorem fold_snoc {α β:Type} (f:β->α->β) (z:β) (l:List α) (k:Nat) (h:k < l.length):(l.take (k+1)).foldl f z=f ((l.take k).foldl f z) l[k]:=by
  rw [List.take_succ_eq_append_getElem h,List.foldl_append];rfl
theorem specOf_any (a:Ac) (lv:Value) (w:World) (hr:RdL w lv a.2.2.2.2) (hl:a.2.2.2.2.length<=4000000) :
    Calls Tryz.prog 100 #[acV a lv] w fun e w'=>e=.returned (.int .i64 (ofA a))/\Below w.heap.size w w':=by
  obtain ⟨nm,fr,no,st,ls⟩:=a
  have HB:=hide ((Below.refl _ w).alloc (Nat.le_refl _) (.cells #[.string nm,.int .i64 fr,.int .i64 no,.int .i64 st,lv] 53))
  have hk:=Blk.new w 53 [.string nm,.int .i64 fr,.int .i64 no,.int .i64 st,lv]
  have Hr:=hide (hr.below HB.out (Nat.le_refl _))
  obtain ⟨av,cv,rfl⟩:=hr.shape
  clear hr
  simp only [acV] at *
  obtain ⟨w0,hw0⟩:∃ w0,w.alloc (.cells #[.string nm,.int .i64 fr,.int .i64 no,.int .i64 st,.slice av ls.length cv] 53)=w0:=⟨_,rfl⟩
  have hk':Blk w0 w.heap.size 53 [.string nm,.int .i64 fr,.int .i64 no,.int .i64 st,.slice av ls.length cv]:=by rw [<- hw0];exact hk
  have HB':Hid (Below w.heap.size w w0):=hide (by rw [<- hw0];exact HB.out)
  have Hr':Hid (RdL w0 (.slice av ls.length cv) ls):=hide (by rw [<- hw0];exact Hr.out)
  have hlt0:=hk'.lt
  have k1:=hk'.cell 1
  have k3:=hk'.cell 3
  simp only [List.getElem?_cons_zero,List.getElem?_cons_succ] at k1 k3
  clear hk HB Hr
  go_enter Tryz.func100,Tryz.ntmps100
  go_wp2
  clear k1 k3
  go_loopw [3,4] (fun nv iv wr=>∃ k:Nat,k<=ls.length/\iv=.int .i64 k/\nv=.int .i64 ((ls.take k).foldl (fun s p=>wrap64 (s+p.1)) (wrap64 (fr+st)))/\Below w0.heap.size w0 wr) (fun _ iv _=>ls.length - (intOf iv).toNat)
  case atStart=>exact ⟨0,Nat.zero_le _,rfl,rfl,Below.refl _ _⟩
  case round =>
    obtain ⟨k,hkl,rfl,rfl,hb⟩:=hrel
    have hc:=(hk'.below hb hlt0).cell 4
    simp only [List.getElem?_cons_zero,List.getElem?_cons_succ] at hc
    by_cases hlt:k < ls.length
    · have hrr:=Hr'.out
      rcases hrr with ⟨_,_,_,e,_⟩ | ⟨b,off,cap,h0,hv,h1,h2,h3,h4⟩
      · subst e;simp at hlt
      injection hv with ha _ hcap
      subst ha hcap
      have hc1:=(hb.cell (p:=⟨b,off+k * 2,none⟩) h3).trans (h4 k hlt).1
      have hli:(k:Int) < (ls.length:Int):=by omega
      have Hf:=hide (fold_snoc (fun s (p:Int × Int)=>wrap64 (s+p.1)) (wrap64 (fr+st)) ls k hlt)
      clear h4
      generalize ls[k]=p at hc1 Hf
      obtain ⟨x,y⟩:=p
      simp only at hc1 Hf
      generalize (ls.take k).foldl (fun s (p:Int × Int)=>wrap64 (s+p.1)) (wrap64 (fr+st))=acc at Hf
      go_wp2
      go_roundw
      case rel=>exact ⟨k+1,by omega,by go_num,by rw [Hf.out],hb⟩
      case measure=>simp [intOf];omega
    · have Hf:Hid (ofA (nm,fr,no,st,ls)=(ls.take k).foldl (fun s p=>wrap64 (s+p.1)) (wrap64 (fr+st))):=hide (by unfold ofA;rw [List.take_of_length_le (by omega)])
      generalize (ls.take k).foldl (fun s (p:Int × Int)=>wrap64 (s+p.1)) (wrap64 (fr+st))=acc at Hf
      go_wp2
      go_ret
      exact ⟨ret_int Hf.out.symm,HB'.out.trans (hb.mono HB'.out.size)⟩
theorem specWealth_any (v:Value) (l:List Ac) (w:World) (hr:RdA w v l) (hl:l.length<=4000000) (hall:∀ a ∈ l,a.2.2.2.2.length<=4000000) :
    Calls Tryz.prog 81 #[v] w fun e w'=>e=.returned (.int .i64 (wealthA l))/\Below w.heap.size w w':=by
  rcases hr with ⟨a,cap,rfl,rfl,-⟩ | ⟨b,off,cap,h0,rfl,h1,h2,h3,h4⟩
  · go_enter Tryz.func81,Tryz.ntmps81
    go_wp2
    refine wp_loop_rounds 1 ?_
    rw [rounds_succ]
    go_wp2
    go_ret
    exact ⟨rfl,Below.refl _ _⟩
  · have H4:=hide h4
    clear h4
    go_enter Tryz.func81,Tryz.ntmps81
    go_wp2
    go_loopw [3,4] (fun nv iv wr=>∃ k:Nat,k<=l.length/\iv=.int .i64 k/\nv=.int .i64 ((l.take k).foldl (fun s a=>wrap64 (s+ofA a)) 0)/\Below w.heap.size w wr) (fun _ iv _=>l.length - (intOf iv).toNat)
    case atStart=>exact ⟨0,Nat.zero_le _,rfl,rfl,Below.refl _ _⟩
    case round =>
      obtain ⟨k,hkl,rfl,rfl,hb⟩:=hrel
      by_cases hlt:k < l.length
      · obtain ⟨lv,hat,hrl⟩:=H4.out k hlt
        obtain ⟨c0,c1,c2,c3,c4⟩:=hat.below hb h3
        have hli:(k:Int) < (l.length:Int):=by omega
        have Hf:=hide (fold_snoc (fun s (a:Ac)=>wrap64 (s+ofA a)) 0 l k hlt)
        have HO:=hide (specOf_any l[k] lv wr (hrl.below hb (Nat.le_refl _)) (hall l[k] (List.getElem_mem _)))
        have hshape:=hrl.shape
        clear hat hrl hall
        generalize (l.take k).foldl (fun s (a:Ac)=>wrap64 (s+ofA a)) 0=acc at Hf
        generalize l[k]=ak at c0 c1 c2 c3 Hf HO hshape
        generalize ofA ak=oa at Hf HO
        obtain ⟨nm,fr,no,st,ls⟩:=ak
        obtain ⟨av,cv,rfl⟩:=hshape
        simp only [acV] at c0 c1 c2 c3 HO
        go_wp2_with (go_at_call 100;refine HO.out.mono ?_;rintro e w2 ⟨rfl,hb2⟩)
        go_roundw
        case rel=>exact ⟨k+1,by omega,by go_num,by rw [Hf.out],hb.trans (hb2.mono hb.size)⟩
        case measure=>simp [intOf];omega
      · have Hf:Hid (wealthA l=(l.take k).foldl (fun s a=>wrap64 (s+ofA a)) 0):=hide (by unfold wealthA;rw [List.take_of_length_le (by omega)])
        generalize (l.take k).foldl (fun s (a:Ac)=>wrap64 (s+ofA a)) 0=acc at Hf
        go_wp2
        go_ret
        exact ⟨ret_int Hf.out.symm,hb⟩
def inB (x a b:Int):Bool:=decide (a<=x/\x<=b)
theorem l1In_any (x a b:Int) (w:World) :
    Calls Tryz.prog 47 #[.int .i64 x,.int .i64 a,.int .i64 b] w fun e w'=>e=.returned (.bool (inB x a b))/\w'=w:=by
  by_cases h1:a<=x
  · by_cases h2:x<=b
    · have e:Hid (inB x a b=true):=hide (by simp [inB,h1,h2])
      go_enter Tryz.func47,Tryz.ntmps47
      go_wp2
      go_ret
      rw [e.out];exact ⟨rfl,rfl⟩
    · have e:Hid (inB x a b=false):=hide (by simp [inB,h1,h2])
      go_enter Tryz.func47,Tryz.ntmps47
      go_wp2
      go_ret
      rw [e.out];exact ⟨rfl,rfl⟩
  · have e:Hid (inB x a b=false):=hide (by simp [inB,h1])
    go_enter Tryz.func47,Tryz.ntmps47
    go_wp2
    go_ret
    rw [e.out];exact ⟨rfl,rfl⟩
def nbB (x:Int):Bool:=inB x 97 122 || inB x 48 57
def nmB (s:ByteArray):Bool:=s.data.toList.all (fun c=>nbB (c.toNat:Int)) && inB s.size 1 8
theorem take_snoc (s:ByteArray) (k:Nat) (h:k < s.size):s.data.toList.take (k+1)=s.data.toList.take k ++ [s[k]]:=by
  rw [List.take_succ_eq_append_getElem (by simpa using h)];rfl
theorem all_snoc (s:ByteArray) (k:Nat) (h:k < s.size) (p:UInt8->Bool) (h1:(s.data.toList.take k).all p=true) (h2:p s[k]=true):(s.data.toList.take (k+1)).all p=true:=by
  rw [take_snoc s k h,List.all_append,h1];simp [h2]
theorem all_not (s:ByteArray) (k:Nat) (h:k < s.size) (p:UInt8->Bool) (h2:p s[k]=false):s.data.toList.all p=false:=by
  rw [Bool.eq_false_iff];intro ha
  rw [List.all_eq_true] at ha
  have:=ha s[k] (by simp [ByteArray.getElem_eq_getElem_data])
  rw [h2] at this;cases this
theorem all_whole (s:ByteArray) (p:UInt8->Bool) (h:(s.data.toList.take s.size).all p=true):s.data.toList.all p=true:=by
  rwa [List.take_of_length_le (by simp)] at h
theorem isNameByte_any (x:Int) (w:World) :
    Calls Tryz.prog 85 #[.int .u8 x] w fun e w'=>e=.returned (.bool (nbB x))/\w'=w:=by
  rcases (show (97<=x/\x<=122)\/(122 < x)\/(57 < x/\x < 97)\/(48<=x/\x<=57)\/x < 48 from by omega) with h | h | h | h | h
  all_goals
    have e:Hid (nbB x=decide ((97<=x/\x<=122)\/(48<=x/\x<=57))):=hide (by simp only [nbB,inB,Bool.or_eq_decide];simp)
    go_enter Tryz.func85,Tryz.ntmps85
    go_wp2
    go_ret
    exact ⟨ret_bool (by rw [e.out,Bool.eq_iff_iff];simp only [Bool.or_eq_true,decide_eq_true_eq,Bool.false_eq_true,true_iff,false_iff];omega),rfl⟩
theorem specNameOk_any (s:ByteArray) (w:World) (hs:s.size<=maxLen) :
    Calls Tryz.prog 49 #[.string s] w fun e w'=>e=.returned (.bool (nmB s))/\w'=w:=by
  unfold maxLen at hs
  go_enter Tryz.func49,Tryz.ntmps49
  go_wp2
  go_loop [3] (fun i=>∃ k:Nat,k<=s.size/\i=.int .i64 k/\(s.data.toList.take k).all (fun c=>nbB (c.toNat:Int))=true) (fun i=>s.size - (intOf i).toNat)
  case atStart=>exact ⟨0,Nat.zero_le _,rfl,rfl⟩
  case round =>
    obtain ⟨k,hk,rfl,hall⟩:=hrel
    by_cases hlt:k < s.size
    · have Hall:=hide hall
      clear hall
      have hb:(s[k].toNat:Int) < 256:=by have:=s[k].toNat_lt;omega
      cases h1:inB (s[k].toNat:Int) 97 122
      · cases h2:inB (s[k].toNat:Int) 48 57
        · have hf:Hid (nmB s=false):=hide (by unfold nmB;rw [all_not s k hlt _ (by simp only [nbB,h1,h2];rfl)];rfl)
          go_wp2_with (go_at_call 47;refine (l1In_any _ _ _ _).mono ?_;rintro e w' ⟨rfl,rfl⟩)
          go_ret
          rw [hf.out];exact ⟨rfl,rfl⟩
        · have hn:Hid (nbB (s[k].toNat:Int)=true):=hide (by simp [nbB,h1,h2])
          go_wp2_with (go_at_call 47;refine (l1In_any _ _ _ _).mono ?_;rintro e w' ⟨rfl,rfl⟩)
          go_round
          case rel=>exact ⟨k+1,by omega,by go_num,all_snoc s k hlt _ Hall.out hn.out⟩
          case measure=>simp [intOf];omega
      · have hn:Hid (nbB (s[k].toNat:Int)=true):=hide (by simp [nbB,h1])
        go_wp2_with (go_at_call 47;refine (l1In_any _ _ _ _).mono ?_;rintro e w' ⟨rfl,rfl⟩)
        go_round
        case rel=>exact ⟨k+1,by omega,by go_num,all_snoc s k hlt _ Hall.out hn.out⟩
        case measure=>simp [intOf];omega
    · have hf:Hid (nmB s=inB s.size 1 8):=hide (by
        have:k=s.size:=by omega
        subst this
        unfold nmB;rw [all_whole s _ hall];rfl)
      clear hall
      go_wp2_with (go_at_call 47;refine (l1In_any _ _ _ _).mono ?_;rintro e w' ⟨rfl,rfl⟩)
      go_ret
      rw [hf.out];exact ⟨rfl,rfl⟩
theorem implNameOk_any (s:ByteArray) (w:World) (hs:s.size<=maxLen) :
    Calls Tryz.prog 55 #[.string s] w fun e w'=>e=.returned (.bool (nmB s))/\w'=w:=by
  unfold maxLen at hs
  rcases (show s.size < 1\/8 < s.size\/(1<=s.size/\s.size<=8) from by omega) with h | h | h
  · have hf:Hid (nmB s=false):=hide (by unfold nmB inB;rw [decide_eq_false (by omega)];simp)
    go_enter Tryz.func55,Tryz.ntmps55
    go_wp2
    go_ret
    rw [hf.out];exact ⟨rfl,rfl⟩
  · have hf:Hid (nmB s=false):=hide (by unfold nmB inB;rw [decide_eq_false (by omega)];simp)
    have h':¬ s.size < 1:=by omega
    go_enter Tryz.func55,Tryz.ntmps55
    go_wp2
    go_ret
    rw [hf.out];exact ⟨rfl,rfl⟩
  · have hin:inB s.size 1 8=true:=by unfold inB;rw [decide_eq_true (by omega)]
    have Hin:=hide hin
    clear hin
    go_enter Tryz.func55,Tryz.ntmps55
    go_wp2
    go_loop [14] (fun i=>∃ k:Nat,k<=s.size/\i=.int .i64 k/\(s.data.toList.take k).all (fun c=>nbB (c.toNat:Int))=true) (fun i=>s.size - (intOf i).toNat)
    case atStart=>exact ⟨0,Nat.zero_le _,rfl,rfl⟩
    case round =>
      obtain ⟨k,hk,rfl,hall⟩:=hrel
      by_cases hlt:k < s.size
      · have Hall:=hide hall
        clear hall
        cases h1:nbB (s[k].toNat:Int)
        · have hf:Hid (nmB s=false):=hide (by unfold nmB;rw [all_not s k hlt _ h1];rfl)
          go_wp2_with (go_at_call 85;refine (isNameByte_any _ _).mono ?_;rintro e w' ⟨rfl,rfl⟩)
          go_ret
          rw [hf.out];exact ⟨rfl,rfl⟩
        · have hn:=hide h1
          go_wp2_with (go_at_call 85;refine (isNameByte_any _ _).mono ?_;rintro e w' ⟨rfl,rfl⟩)
          go_round
          case rel=>exact ⟨k+1,by omega,by go_num,all_snoc s k hlt _ Hall.out hn.out⟩
          case measure=>simp [intOf];omega
      · have hf:Hid (nmB s=true):=hide (by
          have:k=s.size:=by omega
          subst this
          unfold nmB;rw [all_whole s _ hall,Hin.out];rfl)
        clear hall
        go_wp2
        go_ret
        rw [hf.out];exact ⟨rfl,rfl⟩
end Go.Proofs.YthidkbhiikdokaaGreat
