/- The landed code's shaWords. -/
import Derived.Test.YtohachldbpejpaaGreatDoorZoIntKeep
set_option maxRecDepth 20000
set_option maxHeartbeats 1000000
namespace Go.Proofs.YtohachldbpejpaaGreatDoor
open Go.RowKit
set_option linter.unusedVariables false
theorem Ar.sixteen {w:World} {q x0 x1 x2 x3 x4 x5 x6 x7 x8 x9 x10 x11 x12 x13 x14 x15:Nat} (H:Ar w q [x0,x1,x2,x3,x4,x5,x6,x7,x8,x9,x10,x11,x12,x13,x14,x15]):w.cell? ⟨q,0,none⟩=some (.int .u32 (x0:Int))/\w.cell? ⟨q,1,none⟩=some (.int .u32 (x1:Int))/\w.cell? ⟨q,2,none⟩=some (.int .u32 (x2:Int))/\w.cell? ⟨q,3,none⟩=some (.int .u32 (x3:Int))/\w.cell? ⟨q,4,none⟩=some (.int .u32 (x4:Int))/\w.cell? ⟨q,5,none⟩=some (.int .u32 (x5:Int))/\w.cell? ⟨q,6,none⟩=some (.int .u32 (x6:Int))/\w.cell? ⟨q,7,none⟩=some (.int .u32 (x7:Int))/\w.cell? ⟨q,8,none⟩=some (.int .u32 (x8:Int))/\w.cell? ⟨q,9,none⟩=some (.int .u32 (x9:Int))/\w.cell? ⟨q,10,none⟩=some (.int .u32 (x10:Int))/\w.cell? ⟨q,11,none⟩=some (.int .u32 (x11:Int))/\w.cell? ⟨q,12,none⟩=some (.int .u32 (x12:Int))/\w.cell? ⟨q,13,none⟩=some (.int .u32 (x13:Int))/\w.cell? ⟨q,14,none⟩=some (.int .u32 (x14:Int))/\w.cell? ⟨q,15,none⟩=some (.int .u32 (x15:Int)) :=
  ⟨(H 0 (by simp)).1,(H 1 (by simp)).1,(H 2 (by simp)).1,(H 3 (by simp)).1,(H 4 (by simp)).1,(H 5 (by simp)).1,(H 6 (by simp)).1,(H 7 (by simp)).1,(H 8 (by simp)).1,(H 9 (by simp)).1,(H 10 (by simp)).1,(H 11 (by simp)).1,(H 12 (by simp)).1,(H 13 (by simp)).1,(H 14 (by simp)).1,(H 15 (by simp)).1⟩
theorem Ar.froz {w:World} {q:Nat} {l:List Nat} (H:Ar w q l) (hl:l.length=16):w.frozen? ⟨q,0,none⟩=false/\w.frozen? ⟨q,1,none⟩=false/\w.frozen? ⟨q,2,none⟩=false/\w.frozen? ⟨q,3,none⟩=false/\w.frozen? ⟨q,4,none⟩=false/\w.frozen? ⟨q,5,none⟩=false/\w.frozen? ⟨q,6,none⟩=false/\w.frozen? ⟨q,7,none⟩=false/\w.frozen? ⟨q,8,none⟩=false/\w.frozen? ⟨q,9,none⟩=false/\w.frozen? ⟨q,10,none⟩=false/\w.frozen? ⟨q,11,none⟩=false/\w.frozen? ⟨q,12,none⟩=false/\w.frozen? ⟨q,13,none⟩=false/\w.frozen? ⟨q,14,none⟩=false/\w.frozen? ⟨q,15,none⟩=false :=
  ⟨(H 0 (by omega)).2,(H 1 (by omega)).2,(H 2 (by omega)).2,(H 3 (by omega)).2,(H 4 (by omega)).2,(H 5 (by omega)).2,(H 6 (by omega)).2,(H 7 (by omega)).2,(H 8 (by omega)).2,(H 9 (by omega)).2,(H 10 (by omega)).2,(H 11 (by omega)).2,(H 12 (by omega)).2,(H 13 (by omega)).2,(H 14 (by omega)).2,(H 15 (by omega)).2⟩
theorem wordsB_list (l:List UInt8):wordsB l=[wAt l 64 0,wAt l 64 1,wAt l 64 2,wAt l 64 3,wAt l 64 4,wAt l 64 5,wAt l 64 6,wAt l 64 7,wAt l 64 8,wAt l 64 9,wAt l 64 10,wAt l 64 11,wAt l 64 12,wAt l 64 13,wAt l 64 14,wAt l 64 15]:=rfl
theorem shaWords_any (b off cap:Nat) (l:List UInt8) (w:World) (hl:l.length=64) (hcap:64<=cap) (hcm:cap<=maxLen) (hb:b < w.heap.size) (h4:∀ i (h:i < l.length),w.cell? ⟨b,off+i,none⟩=some (.int .u8 (l[i].toNat:Int))) :
    Calls Tryz.prog 174 #[.slice (some ⟨b,off,none⟩) 64 cap] w fun e w'=>e=.returned (.agg ((wordsB l).map uv).toArray)/\Below w.heap.size w w':=by
  have H4:=hide h4
  clear h4
  go_enter Tryz.func174,Tryz.ntmps174
  go_wp2
  go_loopw [8] (fun iv wr=>∃ i:Nat,i<=64/\iv=.int .i64 (i:Int)/\Ar wr w.heap.size [0,0,0,0,0,0,0,0,0,0,0,0,0,0,0,0]/\Ar wr (w.heap.size+1) (wds l i)/\Below w.heap.size w wr) (fun iv _=>64 - (intOf iv).toNat)
  case atStart =>
    refine ⟨0,by omega,rfl,?_,?_,?_⟩
    · exact (Ar.new w _ _ _ _ rfl rfl).alloc (by simp) _
    · rw [wds_zero]
      exact Ar.new _ _ _ _ _ rfl (by simp)
    · exact ((Below.refl w.heap.size w).alloc (Nat.le_refl _) _).alloc (by simp) _
  case round =>
    obtain ⟨i,hi,rfl,ha0,ha1,hbw⟩:=hrel
    by_cases hi64:i < 64
    · have hli:(i:Int) < 64:=by omega
      have hil:i < l.length:=by omega
      have hc:=(hbw.cell (p:=⟨b,off+i,none⟩) hb).trans (H4.out i hil)
      have hj:i / 4 < (wds l i).length:=by rw [wds_len];omega
      have c1:=(ha1 (i / 4) hj).1
      have f1:=(ha1 (i / 4) hj).2
      rw [wds_at] at c1
      have hor:=u32_push (wAt l i (i / 4)) l[i].toNat (wAt_few l i hil) l[i].toNat_lt
      have Hn:=hide (wds_next l i hil)
      obtain ⟨x,hx⟩:∃ x,wAt l i (i / 4)=x:=⟨_,rfl⟩
      rw [hx] at c1 hor Hn
      obtain ⟨y,hy⟩:∃ y,x * 256+l[i].toNat=y:=⟨_,rfl⟩
      rw [hy] at hor Hn
      obtain ⟨q,hq⟩:∃ q,i / 4=q:=⟨_,rfl⟩
      have hqi:(i:Int).tdiv 4=(q:Int):=by rw [<- hq];rfl
      have hq2:(i:Int) / 4=(q:Int):=by omega
      have hq16:(q:Int) < 16:=by omega
      rw [hq] at c1 f1 Hn hj
      have Ha0:=hide ha0
      have Ha1:=hide ha1
      have Hbw:=hide hbw
      have Hj:=hide hj
      clear hx hy ha0 ha1 hbw hj hq
      go_wp2
      go_roundw
      case rel=>exact ⟨i+1,by omega,by go_num,Ha0.out.setOther _ _ (by simp),by rw [Hn.out];exact Ha1.out.set q y Hj.out,Hbw.out.setCell (by simp) _⟩
      case measure=>simp [intOf];omega
    · have e64:i=64:=by omega
      rw [e64] at ha1
      have ha1':Ar wr (w.heap.size+1) (wordsB l):=ha1
      rw [wordsB_list] at ha1'
      have Hw:=hide (wordsB_list l)
      generalize wAt l 64 0=x0 at ha1' Hw
      generalize wAt l 64 1=x1 at ha1' Hw
      generalize wAt l 64 2=x2 at ha1' Hw
      generalize wAt l 64 3=x3 at ha1' Hw
      generalize wAt l 64 4=x4 at ha1' Hw
      generalize wAt l 64 5=x5 at ha1' Hw
      generalize wAt l 64 6=x6 at ha1' Hw
      generalize wAt l 64 7=x7 at ha1' Hw
      generalize wAt l 64 8=x8 at ha1' Hw
      generalize wAt l 64 9=x9 at ha1' Hw
      generalize wAt l 64 10=x10 at ha1' Hw
      generalize wAt l 64 11=x11 at ha1' Hw
      generalize wAt l 64 12=x12 at ha1' Hw
      generalize wAt l 64 13=x13 at ha1' Hw
      generalize wAt l 64 14=x14 at ha1' Hw
      generalize wAt l 64 15=x15 at ha1' Hw
      obtain ⟨d0,d1,d2,d3,d4,d5,d6,d7,d8,d9,d10,d11,d12,d13,d14,d15⟩:=ha1'.sixteen
      obtain ⟨z0,z1,z2,z3,z4,z5,z6,z7,z8,z9,z10,z11,z12,z13,z14,z15⟩:=ha0.sixteen
      obtain ⟨q0,q1,q2,q3,q4,q5,q6,q7,q8,q9,q10,q11,q12,q13,q14,q15⟩:=ha0.froz rfl
      have Hbw:=hide hbw
      clear ha0 ha1 ha1' hbw e64 hi
      go_wp2
      refine bodyPost_ret (v:=.agg #[.int .u32 (x0:Int),.int .u32 (x1:Int),.int .u32 (x2:Int),.int .u32 (x3:Int),.int .u32 (x4:Int),.int .u32 (x5:Int),.int .u32 (x6:Int),.int .u32 (x7:Int),.int .u32 (x8:Int),.int .u32 (x9:Int),.int .u32 (x10:Int),.int .u32 (x11:Int),.int .u32 (x12:Int),.int .u32 (x13:Int),.int .u32 (x14:Int),.int .u32 (x15:Int)]) (by simp [results,Tryz.results174,go_sem,z0,z1,z2,z3,z4,z5,z6,z7,z8,z9,z10,z11,z12,z13,z14,z15]) rfl ⟨?_,?_⟩
      · rw [Hw.out];rfl
      · exact (((((((((((((((Hbw.out.setCell (by simp) _).setCell (by simp) _).setCell (by simp) _).setCell (by simp) _).setCell (by simp) _).setCell (by simp) _).setCell (by simp) _).setCell (by simp) _).setCell (by simp) _).setCell (by simp) _).setCell (by simp) _).setCell (by simp) _).setCell (by simp) _).setCell (by simp) _).setCell (by simp) _).setCell (by simp) _
end Go.Proofs.YtohachldbpejpaaGreatDoor
