import Derived.Test.YthdaejgmfognbaaGreatDoorTe0
import Derived.Test.YthdaejgmfognbaaGreatDoorTe34
import Derived.Test.YthdaejgmfognbaaGreatDoorTe40
import Derived.Maps.OwnSet
import Derived.DeepKeys4
import Derived.Test.YthdaejgmfognbaaGreatDoorTe32
import Derived.Test.YthdaejgmfognbaaGreatDoorTe8
import Derived.Carry
import Derived.Deep.LoopGhost
import Derived.Deep.Cut
import Derived.Deep.RegionHeld3
namespace Go.Proofs.YthdaejgmfognbaaGreatDoor
set_option maxRecDepth 100000
set_option maxHeartbeats 8000000
open Go.ChangeShapes Go.WideShapes Go.ChangeAt Go.RowKit Go.Deep Go.Sort Go.Maps
theorem run_ckI0 (a b c d:Int) (w:World):(Instr.index 71 (.agg #[.int .i64 a,.int .i64 b,.int .i64 c,.int .i64 d]) (.int .i64 0)).run Tryz.prog w=.ok (.int .i64 a) w:=by kernel_rfl
theorem run_ckI1 (a b c d:Int) (w:World):(Instr.index 71 (.agg #[.int .i64 a,.int .i64 b,.int .i64 c,.int .i64 d]) (.int .i64 1)).run Tryz.prog w=.ok (.int .i64 b) w:=by kernel_rfl
theorem run_ckI2 (a b c d:Int) (w:World):(Instr.index 71 (.agg #[.int .i64 a,.int .i64 b,.int .i64 c,.int .i64 d]) (.int .i64 2)).run Tryz.prog w=.ok (.int .i64 c) w:=by kernel_rfl
theorem run_ckI3 (a b c d:Int) (w:World):(Instr.index 71 (.agg #[.int .i64 a,.int .i64 b,.int .i64 c,.int .i64 d]) (.int .i64 3)).run Tryz.prog w=.ok (.int .i64 d) w:=by kernel_rfl
section
attribute [local go_sem] run_ckI0 run_ckI1 run_ckI2 run_ckI3
end
def hisZ (ha:Option Addr) (hn hc:Nat):List Value:=[.slice ha hn hc,.int .i64 0,.int .i64 0,.int .i64 0,.int .i64 0,.int .i64 0,.int .i64 0,.int .i64 0,.int .i64 0,.int .i64 0,.int .i64 0,.int .i64 0,.int .i64 0,.int .i64 0,.int .i64 0,.int .i64 0,.int .i64 0,.int .i64 0,.int .i64 0,.int .i64 0,.int .i64 0]
theorem hisZ_len (ha:Option Addr) (hn hc:Nat):(hisZ ha hn hc).length=21:=rfl
theorem hisZ_one (ha:Option Addr) (hn hc:Nat):∀ v ∈ hisZ ha hn hc,v.oneCell'=true:=by
 intro v hv
 simp only [hisZ,List.mem_cons,List.not_mem_nil,or_false] at hv
 rcases hv with rfl | rfl | rfl | rfl | rfl | rfl | rfl | rfl | rfl | rfl | rfl | rfl | rfl | rfl | rfl | rfl | rfl | rfl | rfl | rfl | rfl <;> rfl
theorem infoHz:(Tryz.prog.info? 74).map (·.size)=some 21:=by kernel_rfl
theorem HisQ.of_range {w:World} {X:Nat} {x:SysIn} (h:w.rangeAt X 0 (hisZ x.ha x.hn x.hc)) (hn:x.hn=x.pn) (hf:∀ j,w.frozen? ⟨X,j,none⟩=false):HisQ w X x.ha x.hc x.y.hs (fun _=>0):=by
 have hz:∀ j,j<20->w.cell? ⟨X,1+j,none⟩=some (.int .i64 0):=fun j hj=>by
  have h1:(hisZ x.ha x.hn x.hc)[1+j]? = some (.int .i64 0):=by
   match j,hj with
   | 0,_=>rfl
   | 1,_=>rfl
   | 2,_=>rfl
   | 3,_=>rfl
   | 4,_=>rfl
   | 5,_=>rfl
   | 6,_=>rfl
   | 7,_=>rfl
   | 8,_=>rfl
   | 9,_=>rfl
   | 10,_=>rfl
   | 11,_=>rfl
   | 12,_=>rfl
   | 13,_=>rfl
   | 14,_=>rfl
   | 15,_=>rfl
   | 16,_=>rfl
   | 17,_=>rfl
   | 18,_=>rfl
   | 19,_=>rfl
   | n+20,h=>exact absurd h (by omega)
  have:=h (1+j) _ h1
  rwa [Nat.zero_add] at this
 refine ⟨?_,fun i hi=>hz i (by omega),fun a b ha hb=>?_,hf⟩
 ·have:=h 0 _ rfl
  show w.cell? ⟨X,0,none⟩=some (.slice x.ha x.pn x.hc)
  rw [<- hn]
  exact this
 ·rw [Hs.opn_start,show 5+a*4+b=1+(4+a*4+b) by omega]
  exact hz _ (by omega)
theorem BoxC.blkK {w w':World} {N:Nat} {p vr vo code:Value} (h:BoxC w N p vr vo code) (hb:w'.heap[N]? = w.heap[N]?):BoxC w' N p vr vo code:=by
 obtain ⟨h0,h1,h2,h3⟩:=h
 exact ⟨(zH hb).trans h0,(zH hb).trans h1,(zH hb).trans h2,(zH hb).trans h3⟩
def spEq (p i q j:Int):Bool:=p == q && i == j
def hgN (y:Sy) (p i q j:Nat):Bool:=!spEq p i q j && decide (j<clk y p i q)
noncomputable def bothB (y:Sy) (p i q j:Int):Bool:=hasB y p i && hasB y q j
noncomputable def hgB (y:Sy) (p i q j:Int):Bool:=bothB y p i q j && hgN y p.toNat i.toNat q.toNat j.toNat
