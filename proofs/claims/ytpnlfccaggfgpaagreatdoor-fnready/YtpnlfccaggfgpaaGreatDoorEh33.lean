import Derived.Test.YtpnlfccaggfgpaaGreatDoorEh0
import Derived.Test.YtpnlfccaggfgpaaGreatDoorEh30
import Derived.Test.YtpnlfccaggfgpaaGreatDoorEh24
import Derived.Deep.Cut
namespace Go.Proofs.YtpnlfccaggfgpaaGreatDoor
open Go.RowKit Go.Deep
theorem DW.alloc {w wr:World} {W0 c len cap N M B T:Nat} {a0:Option Addr} {x:SysIn} (h:DW w wr W0 c a0 len cap N M B T x) (o:Obj):DW w (wr.alloc o) W0 c a0 len cap N M B T x:=h.draw (h.cu.alloc o) (World.grownBy_alloc _ _ _)
structure WJ (w wr:World) (X:Nat) (x:SysIn):Prop where
 g:SysG wr x
 bx:BoxC wr X (.slice x.pa x.pn x.pc) (.slice x.sa x.sn x.sc) (.slice x.wa x.wn x.wc) (.slice x.ha x.hn x.hc)
 be:Below w.heap.size w wr
theorem WJ.below {w wr w':World} {X:Nat} {x:SysIn} (h:WJ w wr X x) (hb:Below wr.heap.size wr w'):WJ w w' X x:=⟨h.g.below hb,h.bx.below hb,h.be.trans (hb.mono h.be.size)⟩
theorem WJ.lt {w wr:World} {X:Nat} {x:SysIn} (h:WJ w wr X x):X<wr.heap.size:=zJ wr _ h.bx.1
theorem OwnSys.inJ {z:Bool} {w:World} {B:Nat} {y:Sy} {v:Value} (o:OwnSys z w B y v):∃ x:SysIn,v=x.v/\x.y=y/\SysG w x/\(∀ i,i<x.hn->x.hL i<=x.hC i)/\x.Nn false:=by
 obtain ⟨x,e1,e2,h⟩:=o.sysT.x
 exact ⟨x,e1,e2,h.self,h.cap,h.nn⟩
