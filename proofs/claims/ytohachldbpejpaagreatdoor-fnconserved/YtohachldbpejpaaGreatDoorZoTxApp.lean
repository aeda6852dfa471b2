/- Orders put behind others, and copied. -/
import Derived.Test.YtohachldbpejpaaGreatDoorZoTxSpec
set_option maxRecDepth 20000
set_option maxHeartbeats 4000000
namespace Go.Proofs.YtohachldbpejpaaGreatDoor
open Go.RowKit
open Go.RowKit Go.Sort
set_option linter.unusedVariables false
theorem same_regrown {P:Program} {f:FuncId} {args:Array Value} {w:World} {d:Nat} {os:Array Obj} {v:Value}
    (h:Calls P f args (grow (redrawn w d) os) fun e w'=>e=.returned v/\w'=grow (redrawn w d) os):Calls P f args (grow (redrawn w d) os) fun e w''=>e=.returned v/\∃ p:Regrown,w''=grow (redrawn w p.d) p.os :=
  h.mono fun _ _ ⟨he,hw⟩=>⟨he,⟨⟨d,os⟩,hw⟩⟩
theorem implWithinT_any (x a b:Int) (w:World) :
    Calls Tryz.prog 53 #[.int .i64 x,.int .i64 a,.int .i64 b] w fun e w'=>e=.returned (.bool (inB x a b))/\w'=w:=by
  by_cases h1:a<=x
  · by_cases h2:x<=b
    · have e:Hid (inB x a b=true):=hide (by simp [inB,h1,h2])
      go_enter Tryz.func53,Tryz.ntmps53
      go_wp2
      go_ret
      rw [e.out];exact ⟨rfl,rfl⟩
    · have e:Hid (inB x a b=false):=hide (by simp [inB,h1,h2])
      go_enter Tryz.func53,Tryz.ntmps53
      go_wp2
      go_ret
      rw [e.out];exact ⟨rfl,rfl⟩
  · have e:Hid (inB x a b=false):=hide (by simp [inB,h1])
    go_enter Tryz.func53,Tryz.ntmps53
    go_wp2
    go_ret
    rw [e.out];exact ⟨rfl,rfl⟩
theorem implOnly_any (k am no:Int) (f tO:ByteArray) (w:World) :
    Calls Tryz.prog 162 #[.agg #[.int .i64 k,.string f,.string tO,.int .i64 am,.int .i64 no]] w fun e w'=>e=.returned (.agg #[.int .i64 k,.string f,.string (if k=1 then tO else { data:=#[] }),.int .i64 am,.int .i64 no])/\Below w.heap.size w w':=by
  by_cases h1:k=1
  · rw [if_pos h1]
    subst h1
    go_enter Tryz.func162,Tryz.ntmps162
    go_wp2
    refine bodyPost_ret (v:=.agg #[.int .i64 1,.string f,.string tO,.int .i64 am,.int .i64 no]) (by simp [results,Tryz.f162,go_sem]) rfl ?_
    exact ⟨rfl,((Below.refl _ w).alloc (Nat.le_refl _) _).alloc (by simp) _⟩
  · rw [if_neg h1]
    have hq:(k == 1)=false:=by rw [beq_eq_false_iff_ne];exact h1
    clear h1
    go_enter Tryz.func162,Tryz.ntmps162
    go_wp2
    refine bodyPost_ret (v:=.agg #[.int .i64 k,.string f,.string { data:=#[] },.int .i64 am,.int .i64 no]) (by simp [results,Tryz.f162,go_sem]) rfl ?_
    exact ⟨rfl,((Below.refl _ w).alloc (Nat.le_refl _) _).alloc (by simp) _⟩
theorem txB_is (k am no:Int) (f tO:ByteArray):txB (k,f,tO,am,no)=(inB k 1 3 && ((decide (k=1) || decide (tO=ByteArray.empty)) && ((!decide (k=1) || nmB tO) && (nmB f && (inB am 1 1000000 && inB no 0 10000))))):=by
  simp only [txB]
  by_cases h:k=1
  · subst h
    simp only [if_pos,inB]
    cases nmB f <;> cases nmB tO <;> simp
  · rw [if_neg h]
    have e:inB k 2 3=inB k 1 3:=by
      rw [Bool.eq_iff_iff]
      simp only [inB,decide_eq_true_eq]
      omega
    rw [e]
    cases inB k 1 3 <;> cases nmB f <;> cases inB am 1 1000000 <;> cases inB no 0 10000 <;> simp [h]
theorem implTxOk_any (t:Tx5) (w:World) (hf:t.2.1.size<=maxLen) (ht:t.2.2.1.size<=maxLen) :
    Calls Tryz.prog 107 #[txV t] w fun e w'=>e=.returned (.bool (txB t))/\Below w.heap.size w w':=by
  obtain ⟨k,f,tO,am,no⟩:=t
  simp only [txV] at *
  obtain ⟨w0,hw0⟩:∃ w0,w.alloc (.cells #[.int .i64 k,.string f,.string tO,.int .i64 am,.int .i64 no] 35)=w0:=⟨_,rfl⟩
  have HB:Hid (Below w.heap.size w w0):=hide (by rw [<- hw0];exact (Below.refl _ w).alloc (Nat.le_refl _) _)
  have hk:Blk w0 w.heap.size 35 [.int .i64 k,.string f,.string tO,.int .i64 am,.int .i64 no]:=by rw [<- hw0];exact heap_alloc_new w _
  have k0:=hk.cell 0
  have k1:=hk.cell 1
  have k2:=hk.cell 2
  have k3:=hk.cell 3
  have k4:=hk.cell 4
  simp only [List.getElem?_cons_zero,List.getElem?_cons_succ] at k0 k1 k2 k3 k4
  have g0:=cell_regrown k0
  have g1:=cell_regrown k1
  have g2:=cell_regrown k2
  have g3:=cell_regrown k3
  have g4:=cell_regrown k4
  clear hk
  have Hx:=hide (txB_is k am no f tO)
  generalize txB (k,f,tO,am,no)=X at Hx
  have HO:=hide (fun (d:Nat) (os:Array Obj)=>Calls.regrown_of (implOnly_any k am no f tO (grow (redrawn w0 d) os)))
  cases e0:inB k 1 3
  · rw [e0,Bool.false_and] at Hx
    clear HO
    go_enter Tryz.func107,Tryz.ntmps107
    go_wp2
    clear k0 k1 k2 k3 k4
    refine wp_region_quiet_below (by kernel_rfl) (by kernel_rfl) ?_
    repeat (go_big_quiet_step ((first
          | (go_at_call 53;exact same_regrown (implWithinT_any _ _ _ _))
          | (go_at_call 162;exact HO.out _ _)
          | (go_at_call 163;exact same_regrown (implNameOk_any _ _ (by assumption))))))
    refine wpQuiet_nil ?_
    intro _ hw'
    obtain ⟨⟨dq,osq⟩,hw''⟩:=hw'
    subst hw''
    go_wp2
    go_ret
    exact ⟨ret_bool Hx.out.symm,HB.out.trans ((below_regrown w0 dq osq).mono HB.out.size)⟩
  · rw [e0, Bool.true_and] at Hx
    by_cases hk1:k=1
    · rw [if_pos hk1] at HO
      rw [decide_eq_true hk1,Bool.true_or,Bool.true_and,Bool.not_true,Bool.false_or] at Hx
      subst hk1
      cases e2:nmB tO
      · rw [e2,Bool.false_and] at Hx
        go_enter Tryz.func107,Tryz.ntmps107
        go_wp2
        clear k0 k1 k2 k3 k4
        refine wp_region_quiet_below (by kernel_rfl) (by kernel_rfl) ?_
        repeat (go_big_quiet_step ((first
          | (go_at_call 53;exact same_regrown (implWithinT_any _ _ _ _))
          | (go_at_call 162;exact HO.out _ _)
          | (go_at_call 163;exact same_regrown (implNameOk_any _ _ (by assumption))))))
        refine wpQuiet_nil ?_
        intro _ hw'
        obtain ⟨⟨dq,osq⟩,hw''⟩:=hw'
        subst hw''
        go_wp2
        go_ret
        exact ⟨ret_bool Hx.out.symm,HB.out.trans ((below_regrown w0 dq osq).mono HB.out.size)⟩
      · rw [e2,Bool.true_and] at Hx
        go_enter Tryz.func107,Tryz.ntmps107
        go_wp2
        clear k0 k1 k2 k3 k4
        refine wp_region_quiet_below (by kernel_rfl) (by kernel_rfl) ?_
        repeat (go_big_quiet_step ((first
          | (go_at_call 53;exact same_regrown (implWithinT_any _ _ _ _))
          | (go_at_call 162;exact HO.out _ _)
          | (go_at_call 163;exact same_regrown (implNameOk_any _ _ (by assumption))))))
        refine wpQuiet_nil ?_
        intro _ hw'
        obtain ⟨⟨dq,osq⟩,hw''⟩:=hw'
        subst hw''
        have HB1:Hid (Below w.heap.size w (grow (redrawn w0 dq) osq)):=hide (HB.out.trans ((below_regrown w0 dq osq).mono HB.out.size))
        have k1:=g1 dq osq
        have k3:=g3 dq osq
        have k4:=g4 dq osq
        clear g0 g1 g2 g3 g4 HB HO
        generalize grow (redrawn w0 dq) osq=w1 at *
        cases e3:nmB f <;> cases e4:inB am 1 1000000 <;> simp only [e3,e4,Bool.true_and,Bool.false_and] at Hx
        all_goals
          go_wp2_with (first
            | (go_at_call 163;refine (implNameOk_any _ _ (by assumption)).mono ?_;rintro e w1 ⟨rfl,rfl⟩)
            | (go_at_call 53;refine (implWithinT_any _ _ _ _).mono ?_;rintro e w1 ⟨rfl,rfl⟩))
          go_ret
          exact ⟨ret_bool Hx.out.symm,HB1.out⟩
    · rw [if_neg hk1] at HO
      rw [decide_eq_false hk1,Bool.false_or,Bool.not_false,Bool.true_or,Bool.true_and] at Hx
      have hkb:(k == 1)=false:=by rw [beq_eq_false_iff_ne];exact hk1
      clear hk1
      by_cases e2:tO=ByteArray.empty
      · rw [decide_eq_true e2,Bool.true_and] at Hx
        subst e2
        go_enter Tryz.func107,Tryz.ntmps107
        go_wp2
        clear k0 k1 k2 k3 k4
        refine wp_region_quiet_below (by kernel_rfl) (by kernel_rfl) ?_
        repeat (go_big_quiet_step ((first
          | (go_at_call 53;exact same_regrown (implWithinT_any _ _ _ _))
          | (go_at_call 162;exact HO.out _ _)
          | (go_at_call 163;exact same_regrown (implNameOk_any _ _ (by assumption))))))
        refine wpQuiet_nil ?_
        intro _ hw'
        obtain ⟨⟨dq,osq⟩,hw''⟩:=hw'
        subst hw''
        have HB1:Hid (Below w.heap.size w (grow (redrawn w0 dq) osq)):=hide (HB.out.trans ((below_regrown w0 dq osq).mono HB.out.size))
        have k1:=g1 dq osq
        have k3:=g3 dq osq
        have k4:=g4 dq osq
        clear g0 g1 g2 g3 g4 HB HO
        generalize grow (redrawn w0 dq) osq=w1 at *
        cases e3:nmB f <;> cases e4:inB am 1 1000000 <;> simp only [e3,e4,Bool.true_and,Bool.false_and] at Hx
        all_goals
          go_wp2_with (first
            | (go_at_call 163;refine (implNameOk_any _ _ (by assumption)).mono ?_;rintro e w1 ⟨rfl,rfl⟩)
            | (go_at_call 53;refine (implWithinT_any _ _ _ _).mono ?_;rintro e w1 ⟨rfl,rfl⟩))
          go_ret
          exact ⟨ret_bool Hx.out.symm,HB1.out⟩
      · rw [decide_eq_false e2,Bool.false_and] at Hx
        have hne:tO.toList.isEmpty=false:=by
          cases h:tO.toList.isEmpty
          · rfl
          · exact absurd (toList_inj5 (List.isEmpty_iff.1 h)) e2
        clear e2
        go_enter Tryz.func107,Tryz.ntmps107
        go_wp2
        clear k0 k1 k2 k3 k4
        refine wp_region_quiet_below (by kernel_rfl) (by kernel_rfl) ?_
        repeat (go_big_quiet_step ((first
          | (go_at_call 53;exact same_regrown (implWithinT_any _ _ _ _))
          | (go_at_call 162;exact HO.out _ _)
          | (go_at_call 163;exact same_regrown (implNameOk_any _ _ (by assumption))))))
        refine wpQuiet_nil ?_
        intro _ hw'
        obtain ⟨⟨dq,osq⟩,hw''⟩:=hw'
        subst hw''
        go_wp2
        go_ret
        exact ⟨ret_bool Hx.out.symm,HB.out.trans ((below_regrown w0 dq osq).mono HB.out.size)⟩
end Go.Proofs.YtohachldbpejpaaGreatDoor
namespace Go.Proofs.YtohachldbpejpaaGreatDoor
open Go.RowKit
set_option linter.unusedVariables false
def cmpI (x y:Int):Int:=if x < y then -1 else if y < x then 1 else 0
def cmpS (x y:ByteArray):Int:=if Op.bytesLess x.toList y.toList=true then -1 else if x=y then 0 else 1
def orL:List Int->Int
  | []=>0
  | x :: t=>if x=0 then orL t else x
end Go.Proofs.YtohachldbpejpaaGreatDoor
namespace Go.Proofs.YtohachldbpejpaaGreatDoor
open Go.RowKit Go.Sort
set_option linter.unusedVariables false
end Go.Proofs.YtohachldbpejpaaGreatDoor
namespace Go.Proofs.YtohachldbpejpaaGreatDoor
open Go.RowKit
set_option linter.unusedVariables false
theorem add_flatT (b off i:Nat):(⟨b,off,none⟩:Addr).add i=⟨b,off+i,none⟩:=by
  simp [Addr.add]
theorem own_nilT (w:World) (base:Nat) (h:base<=w.heap.size):OwnT base (w.alloc (.cells #[] 35)) (.slice (some ⟨w.heap.size,0,none⟩) 0 0) [] :=
  World.ownsRow_lit w #[] 0 h (by unfold maxLen;omega) (by simp)
theorem app_ownT1 {ops:Array Oper} {rest:List Oper} {o:Oper} {a:Act} {Q:Exit->Act->World->Prop} (w:World) (hgd:o.guard=none) (s x:Operand)
    (ho:o.op=.call { callee:=.builtin .append,args:=#[s,x],argTypes:=#[27,27] })
    (base:Nat) (v:Value) (B:Nat) (l:List Tx5) (t:Tx5) (hs:a.eval s=v) (hx:a.eval x=.slice (some ⟨B,0,none⟩) 1 1) (hown:OwnT base w v l) (hblk:Blk w B 35 (txC t))
    (hlen:l.length<=100000000) (hbase:base<=w.heap.size)
    (h:∀ v' w',OwnT base w' v' (l ++ [t])->w.grownBy w' v.ownBlock->(v'.ownBlock=v.ownBlock\/v'.ownBlock=some w.heap.size)->wpList Tryz.prog ops Q rest (a.put o.dst v') w'):wpList Tryz.prog ops Q (o :: rest) a w:=by
  obtain ⟨i0,hi,hz0,hz1,hz2⟩:=info_parts Tryz.infoTx
  refine wpList_append_own_at w hgd s x 27 ho base 35 i0 _ 5 56 Tryz.underlying27 hi hz0 hz1 hz2 rfl (by decide) v l.length (l.map txC).flatten hs hown ⟨B,0,none⟩ 1 1 (txC t) hx rfl ?_ ?_ (by unfold maxLen;omega) (by omega) hbase ?_
  · intro j u hj
    rw [add_flatT,Nat.zero_add,hblk.cell j]
    exact hj
  · intro u hu
    simp only [txC,List.mem_cons,List.not_mem_nil,or_false] at hu
    rcases hu with rfl | rfl | rfl | rfl | rfl <;> rfl
  · intro v' w' ho' hg _ hl
    exact h v' w' (by unfold OwnT;rw [List.length_append,List.map_append,List.flatten_append];simpa using ho') hg hl
end Go.Proofs.YtohachldbpejpaaGreatDoor
