import Derived.Test.YthdaejgmfognbaaGreatDoorTe0
import Derived.Test.YthdaejgmfognbaaGreatDoorTe44
import Derived.Deep.RegionLaw
import Derived.Deep.Cut
import Derived.Test.YthdaejgmfognbaaGreatDoorTe38
namespace Go.Proofs.YthdaejgmfognbaaGreatDoor
set_option maxRecDepth 100000
set_option maxHeartbeats 8000000
open Go.RowKit Go.Deep
structure DW (w wr:World) (W0 c:Nat) (a0:Option Addr) (len cap N M B T:Nat) (x:SysIn):Prop where
 cu:Cur wr W0 c a0 len cap
 be:Below w.heap.size w wr
 sx:SysX wr B T x
 b2:Bx wr N (.slice none 0 0) (.slice none 0 0) (.slice none 0 0) (.slice none 0 0)
 b6:Bx wr M (.slice x.pa x.pn x.pc) (.slice x.sa x.sn x.sc) (.slice x.wa x.wn x.wc) (.slice x.ha x.hn x.hc)
 sz:w.heap.size<=N/\N<c/\c<B/\c<M/\T<=M
theorem DW.draw {w wr w':World} {W0 c len cap N M B T:Nat} {a0:Option Addr} {x:SysIn} (h:DW w wr W0 c a0 len cap N M B T x) (hc:Cur w' W0 c a0 len cap) (hg:wr.grownBy w' (some c)):DW w w' W0 c a0 len cap N M B T x:=
 ⟨hc,Below.grown h.be hg (by have:=h.be.size;exact this) (fun k hk=>by cases hk;have:=h.sz;omega),h.sx.keep hg.size fun b hb _ hl=>hg.block b hl (by have:=h.sz;simp;omega),h.b2.grown hg (by have:=h.sz;simp;omega),h.b6.grown hg (by have:=h.sz;simp;omega),h.sz⟩
theorem DW.set4 {w wr:World} {W0 c len cap N M B T:Nat} {a0:Option Addr} {x:SysIn} (h:DW w wr W0 c a0 len cap N M B T x) (u0 u1 u2 u3:Value):SysX ((((wr.setCell ⟨N,0,none⟩ u0).setCell ⟨N,1,none⟩ u1).setCell ⟨N,2,none⟩ u2).setCell ⟨N,3,none⟩ u3) B T x:=
 h.sx.keep (by simp) fun b hb _ _=>by
  have:=h.sz
  rw [zO _ _ _ _ (by show b≠N;omega),zO _ _ _ _ (by show b≠N;omega),zO _ _ _ _ (by show b≠N;omega),zO _ _ _ _ (by show b≠N;omega)]
theorem SysX.drew {w:World} {B T:Nat} {x:SysIn} (h:SysX w B T x):SysX w.drew B T x:=h.keep (Nat.le_refl _) fun _ _ _ _=>rfl
theorem DW.drew {w wr:World} {W0 c len cap N M B T:Nat} {a0:Option Addr} {x:SysIn} (h:DW w wr W0 c a0 len cap N M B T x):DW w wr.drew W0 c a0 len cap N M B T x:=h.draw h.cu.drew ⟨rfl,rfl,rfl,Nat.le_refl _,fun _ _ _=>rfl⟩
theorem DW.alloc {w wr:World} {W0 c len cap N M B T:Nat} {a0:Option Addr} {x:SysIn} (h:DW w wr W0 c a0 len cap N M B T x) (o:Obj):DW w (wr.alloc o) W0 c a0 len cap N M B T x:=h.draw (h.cu.alloc o) (World.grownBy_alloc _ _ _)
structure WJ (w wr:World) (X:Nat) (x:SysIn):Prop where
 g:SysG wr x
 bx:BoxC wr X (.slice x.pa x.pn x.pc) (.slice x.sa x.sn x.sc) (.slice x.wa x.wn x.wc) (.slice x.ha x.hn x.hc)
 be:Below w.heap.size w wr
theorem WJ.below {w wr w':World} {X:Nat} {x:SysIn} (h:WJ w wr X x) (hb:Below wr.heap.size wr w'):WJ w w' X x:=⟨h.g.below hb,h.bx.below hb,h.be.trans (hb.mono h.be.size)⟩
theorem WJ.lt {w wr:World} {X:Nat} {x:SysIn} (h:WJ w wr X x):X<wr.heap.size:=zJ wr _ h.bx.1
