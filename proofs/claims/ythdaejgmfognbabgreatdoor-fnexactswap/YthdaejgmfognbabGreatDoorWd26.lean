/- What stands between the rounds of a draw of events. -/
import Derived.Test.YthdaejgmfognbabGreatDoorWd0
import Derived.Test.YthdaejgmfognbabGreatDoorWd14
import Derived.Test.YthdaejgmfognbabGreatDoorWd25
import Derived.Test.YthdaejgmfognbabGreatDoorWd21
namespace Go.Proofs.YthdaejgmfognbabGreatDoor
set_option maxRecDepth 100000
set_option maxHeartbeats 1000000
open Go.RowKit
theorem specStateNew_any (w : World) :
  Calls Tryz.prog 59 #[] w fun e w' => ∃ v, e = .returned v /\ StOwn w' w.heap.size v 0 [0, 0, 0, 0] [] 0 /\ Below w.heap.size w w' := by
 have hmk : ∀ w : World, (Instr.makeSlice 88 (.int .i64 4) (.int .i64 4)).run Tryz.prog w = .ok (.slice (some ⟨w.heap.size, 0, none⟩) 4 4) (w.alloc (.cells (madeCells #[.int .i64 0] 4) 3)) := fun w => run_make_int 4 (by omega) w
 have HM : Hid (∀ w : World, OwnI (w.alloc (.cells (madeCells #[.int .i64 0] 4) 3)) w.heap.size (.slice (some ⟨w.heap.size, 0, none⟩) 4 4) [0, 0, 0, 0]) := fun w => made_own w 4 (by omega)
 go_enter Tryz.func59, Tryz.ntmps59
 go_wp2
 have hB : w.heap.size <= w.heap.size + 1 := by omega
 have hM := HM.out (w.alloc (oQ1 0 (some ⟨w.heap.size + 1, 0, none⟩) 4 4 none 0 0 0))
 rw [World.size_alloc] at hM
 refine bodyPost_ret (v := stV 0 (some ⟨w.heap.size + 1, 0, none⟩) 4 4 none 0 0 0) (by simp [results, Tryz.results59, go_sem]) rfl ⟨_, rfl, ⟨_, _, rfl, hM.mono hB, World.ownsRow_nil _ _ _ _, fun k _ => by simp [Value.ownBlock]⟩, by go_grown⟩
theorem Tl.widen {w : World} {B C C' N : Nat} {p c : Int} {ra : Option Addr} {rn rc : Nat} {oa : Option Addr} {on oc : Nat} {rs os : List Int} (h : Tl w B C N p c ra rn rc oa on oc rs os) (h1 : C <= C') (h2 : C' <= w.heap.size) : Tl w B C' N p c ra rn rc oa on oc rs os :=
 ⟨h.lo, zL h.hi h1, h2, h.box, h.own, fun k hk => zL (h.up k hk) h1, h.ne⟩
end Go.Proofs.YthdaejgmfognbabGreatDoor
