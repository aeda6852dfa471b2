/- A node with an order more in its pool (plain). -/
import Derived.Test.YtamljhcmiphdgaaGreatDoorZvNdPure
namespace Go.Proofs.YtamljhcmiphdgaaGreatDoor
open Go.RowKit
set_option linter.unusedVariables false
def tT4:List Value:=[.slice none 0 0,.slice none 0 0,.slice none 0 0,.bool false]
def rbP (b:Bool) (p:Nd):Nd:=if b=true then { p with vo:=[],go:=[],pl:=[] } else p
def rbY (b:Bool) (u:Nv):Nv:=if b=true then { u with v:=.slice none 0 0,g:=.slice none 0 0,p:=.slice none 0 0 } else u
def sbP (p:Nd) (t:Tx5):Nd:=if nodB p=true then { p with pl:=(poS p.pl t).1 } else p
def sbO (p:Nd) (t:Tx5):Bool:=nodB p && (poS p.pl t).2
theorem poS_no {l:List Tx5} {t:Tx5} (h:(poS l t).2=false):(poS l t).1=l:=by
 unfold poS at h ⊢
 split
 ·rename_i e;rw [if_pos e] at h;cases h
 ·rfl
theorem gT_ (l:List Tx5) (t:Tx5):(poS l t).1.length<=l.length+1:=by
 unfold poS
 split
 ·exact Nat.le_of_eq am_
 ·exact Nat.le_succ _
theorem cX_ {p:Nd} (t:Tx5) (h:FewNd p) (hn:p.pl.length<=3999999):FewNd (sbP p t):=by
 unfold sbP
 split
 ·exact ⟨h.na,h.fa,h.ns,h.nt,h.ft,h.nw,h.nx,h.nh,h.nv,h.ng,h.nd,by have:=gT_ p.pl t;show (poS p.pl t).1.length<=4000000;omega,h.nq,h.fq⟩
 ·exact h
theorem sb_tt (p:Nd) (t:Tx5):(sbP p t).tt=p.tt:=by unfold sbP;split <;> rfl
theorem sb_ps (p:Nd) (t:Tx5):(sbP p t).ps=p.ps:=by unfold sbP;split <;> rfl
theorem dC_ {w:World} {p:Nd} {u:Nv} {l:List Tx5} {v:Value} (h:RdNd w p u) (hv:RdT w v l):RdNd w { p with pl:=l } { u with p:=v }:=⟨h.ka,h.ks,h.kt,h.kw,h.kx,h.kh,h.kv,h.kg,h.kd,hv,h.kq⟩
end Go.Proofs.YtamljhcmiphdgaaGreatDoor
