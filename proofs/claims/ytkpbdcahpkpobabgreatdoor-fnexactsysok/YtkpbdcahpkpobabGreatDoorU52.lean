/- The walks of the program's systemOf. -/
import Derived.Test.YtkpbdcahpkpobabGreatDoorU51
import Derived.Test.YtkpbdcahpkpobabGreatDoorU44
namespace Go.Proofs.YtkpbdcahpkpobabGreatDoor
open Go.ChangeShapes Go.WideShapes Go.ChangeAt Go.RowKit Go.Deep Go.Sort

/-- A system of the program's own, cell by cell, nothing put. -/
def sysL (pa : Option Addr) (pn pc : Nat) (sa : Option Addr) (sn sc : Nat) (wa : Option Addr) (wn wc : Nat) (ha : Option Addr) (hn hc : Nat) : List Value :=
  [.slice pa pn pc, .slice sa sn sc, .slice wa wn wc, .slice ha hn hc, .slice ha hn hc, .int .i64 0, .int .i64 0, .int .i64 0, .int .i64 0, .int .i64 0, .int .i64 0, .int .i64 0, .int .i64 0, .int .i64 0, .int .i64 0, .int .i64 0, .int .i64 0, .int .i64 0, .int .i64 0, .int .i64 0, .int .i64 0, .int .i64 0, .int .i64 0, .int .i64 0, .int .i64 0]
theorem sysL_len (pa : Option Addr) (pn pc : Nat) (sa : Option Addr) (sn sc : Nat) (wa : Option Addr) (wn wc : Nat) (ha : Option Addr) (hn hc : Nat) : (sysL pa pn pc sa sn sc wa wn wc ha hn hc).length = 25 := rfl
theorem sysL_one (pa : Option Addr) (pn pc : Nat) (sa : Option Addr) (sn sc : Nat) (wa : Option Addr) (wn wc : Nat) (ha : Option Addr) (hn hc : Nat) : ∀ v ∈ sysL pa pn pc sa sn sc wa wn wc ha hn hc, v.oneCell' = true := by
  intro v hv
  simp only [sysL, List.mem_cons, List.not_mem_nil, or_false] at hv
  rcases hv with rfl | rfl | rfl | rfl | rfl | rfl | rfl | rfl | rfl | rfl | rfl | rfl | rfl | rfl | rfl | rfl | rfl | rfl | rfl | rfl | rfl | rfl | rfl | rfl | rfl <;> rfl
theorem infoSystem : (Tryz.prog.info? 80).map (·.size) = some 25 := by kernel_rfl
theorem results_cell2 {fn : Func} {ra rb : Nat} {ty : TypeId} (h : fn.results = #[.cell ra ty, .tmp rb]) (tmps : Array Value) (w : World) (N : Nat) (cs : List Value) (d : TypeDesc) (ha : tmps.getD ra undef = .pointer (some ⟨N, 0, none⟩)) (hc : w.rangeAt N 0 cs) (hu : Tryz.prog.underlying ty = some d) (hd : d.isRow = true) (hi : (Tryz.prog.info? ty).map (·.size) = some cs.length) :
    (results fn tmps).run Tryz.prog w = .ok (.tuple #[.agg cs.toArray, tmps.getD rb undef]) w := by
  have hl := run_loadVar_mid (P := Tryz.prog) w N 0 ty cs d hc hu hd hi
  rw [Array.getD_eq_getD_getElem?] at ha
  simp [results, h, ha, asAddr, hl]
theorem there_new (w : World) (zs : Array Value) (t : TypeId) (n N : Nat) (hn : zs.size = n) (hN : N = w.heap.size) : (w.alloc (.cells zs t)).there N 0 n := fun j hj => by
  subst hN
  refine ⟨?_, new_frozen _ _ _ _ rfl⟩
  rw [Nat.zero_add, new_cell _ _ _ j rfl, Array.getElem?_eq_getElem (by omega)]
  rfl

set_option maxRecDepth 100000 in
set_option maxHeartbeats 1000000 in
theorem systemOf_less (pa : Option Addr) (pn pc : Nat) (sa : Option Addr) (sn sc : Nat) (wa : Option Addr) (wn wc : Nat) (ha : Option Addr) (hn hc : Nat) (w : World) (h1 : (pn : Int) < 1) :
    Calls Tryz.prog 43 #[sysV pa pn pc sa sn sc wa wn wc ha hn hc] w fun e w' => e = .returned (.tuple #[.agg (sysL none 0 0 none 0 0 none 0 0 none 0 0).toArray, .bool false]) ∧ Below w.heap.size w w' := by
  have hl := sysL_len none 0 0 none 0 0 none 0 0 none 0 0
  have ho := sysL_one none 0 0 none 0 0 none 0 0 none 0 0
  generalize hcs : sysL none 0 0 none 0 0 none 0 0 none 0 0 = cs at *
  have HC : Hid (sysL none 0 0 none 0 0 none 0 0 none 0 0 = cs) := hcs
  have hs : cs.toArray.size = 25 := by simpa using hl
  have HT : Hid (((w.alloc (.cells #[.slice pa pn pc, .slice sa sn sc, .slice wa wn wc, .slice ha hn hc] 35)).alloc (.cells #[.slice none 0 0, .slice none 0 0, .slice none 0 0, .slice none 0 0, .slice none 0 0, .int .i64 0, .int .i64 0, .int .i64 0, .int .i64 0, .int .i64 0, .int .i64 0, .int .i64 0, .int .i64 0, .int .i64 0, .int .i64 0, .int .i64 0, .int .i64 0, .int .i64 0, .int .i64 0, .int .i64 0, .int .i64 0, .int .i64 0, .int .i64 0, .int .i64 0, .int .i64 0] 80)).there (w.heap.size + 1) 0 cs.toArray.size) := there_new _ _ _ _ _ (by rw [hs]; rfl) (by simp)
  have HI : Hid ((Tryz.prog.info? 80).map (·.size) = some cs.length) := by rw [hl]; exact infoSystem
  have HO : Hid (cs.toArray.all (·.oneCell') = true) := all_oneCell_toArray ho
  have BW : Hid (Below w.heap.size w ((w.alloc (.cells #[.slice pa pn pc, .slice sa sn sc, .slice wa wn wc, .slice ha hn hc] 35)).alloc (.cells #[.slice none 0 0, .slice none 0 0, .slice none 0 0, .slice none 0 0, .slice none 0 0, .int .i64 0, .int .i64 0, .int .i64 0, .int .i64 0, .int .i64 0, .int .i64 0, .int .i64 0, .int .i64 0, .int .i64 0, .int .i64 0, .int .i64 0, .int .i64 0, .int .i64 0, .int .i64 0, .int .i64 0, .int .i64 0, .int .i64 0, .int .i64 0, .int .i64 0, .int .i64 0] 80))) := (below_alloc _ _).trans ((below_alloc _ _).mono (by simp))
  have BX : Hid (BoxC ((w.alloc (.cells #[.slice pa pn pc, .slice sa sn sc, .slice wa wn wc, .slice ha hn hc] 35)).alloc (.cells #[.slice none 0 0, .slice none 0 0, .slice none 0 0, .slice none 0 0, .slice none 0 0, .int .i64 0, .int .i64 0, .int .i64 0, .int .i64 0, .int .i64 0, .int .i64 0, .int .i64 0, .int .i64 0, .int .i64 0, .int .i64 0, .int .i64 0, .int .i64 0, .int .i64 0, .int .i64 0, .int .i64 0, .int .i64 0, .int .i64 0, .int .i64 0, .int .i64 0, .int .i64 0] 80)) w.heap.size (.slice pa pn pc) (.slice sa sn sc) (.slice wa wn wc) (.slice ha hn hc)) := (BoxC.new w _ _ _ _ _).below (below_alloc _ _)
  clear hcs hl ho hs
  go_enter Tryz.func43, Tryz.ntmps43
  go_upto_region 1 with fail
  generalize ((w.alloc (.cells #[.slice pa pn pc, .slice sa sn sc, .slice wa wn wc, .slice ha hn hc] 35)).alloc (.cells #[.slice none 0 0, .slice none 0 0, .slice none 0 0, .slice none 0 0, .slice none 0 0, .int .i64 0, .int .i64 0, .int .i64 0, .int .i64 0, .int .i64 0, .int .i64 0, .int .i64 0, .int .i64 0, .int .i64 0, .int .i64 0, .int .i64 0, .int .i64 0, .int .i64 0, .int .i64 0, .int .i64 0, .int .i64 0, .int .i64 0, .int .i64 0, .int .i64 0, .int .i64 0] 80)) = W0 at *
  obtain ⟨k0, k1, k2, k3⟩ := BX.out
  go_upto_region 3 with fail
  go_wp2_with (refine wpList_store_mid rfl 80 (.tmp 2) (.tmp 37) rfl (w.heap.size + 1) 0 cs.toArray rfl (by rw [← HC.out]; rfl) HT.out (by simpa using HI.out) HO.out ?_)
  have HR : Hid ((W0.setCells (w.heap.size + 1) 0 cs).rangeAt (w.heap.size + 1) 0 cs) := World.rangeAt_setCells_same _ _ _ _ (by simpa using HT.out)
  have BE : Hid (Below w.heap.size w (W0.setCells (w.heap.size + 1) 0 cs)) := BW.out.trans ((Touch.sets (P := fun b => b = w.heap.size + 1) rfl _ _ (Touch.refl _ _)).below BW.out.size fun b e => by omega)
  clear HT HC BW BX
  generalize W0.setCells (w.heap.size + 1) 0 cs = W1 at *
  exact bodyPost_ret (results_cell2 Tryz.results43 _ _ (w.heap.size + 1) cs _ rfl HR.out Tryz.underlying80 rfl HI.out) rfl ⟨rfl, BE.out⟩

set_option maxRecDepth 100000 in
set_option maxHeartbeats 1000000 in
theorem systemOf_more (pa : Option Addr) (pn pc : Nat) (sa : Option Addr) (sn sc : Nat) (wa : Option Addr) (wn wc : Nat) (ha : Option Addr) (hn hc : Nat) (w : World) (h1 : ¬ (pn : Int) < 1) (h4 : (4 : Int) < (pn : Int)) :
    Calls Tryz.prog 43 #[sysV pa pn pc sa sn sc wa wn wc ha hn hc] w fun e w' => e = .returned (.tuple #[.agg (sysL none 0 0 none 0 0 none 0 0 none 0 0).toArray, .bool false]) ∧ Below w.heap.size w w' := by
  have hl := sysL_len none 0 0 none 0 0 none 0 0 none 0 0
  have ho := sysL_one none 0 0 none 0 0 none 0 0 none 0 0
  generalize hcs : sysL none 0 0 none 0 0 none 0 0 none 0 0 = cs at *
  have HC : Hid (sysL none 0 0 none 0 0 none 0 0 none 0 0 = cs) := hcs
  have hs : cs.toArray.size = 25 := by simpa using hl
  have HT : Hid (((w.alloc (.cells #[.slice pa pn pc, .slice sa sn sc, .slice wa wn wc, .slice ha hn hc] 35)).alloc (.cells #[.slice none 0 0, .slice none 0 0, .slice none 0 0, .slice none 0 0, .slice none 0 0, .int .i64 0, .int .i64 0, .int .i64 0, .int .i64 0, .int .i64 0, .int .i64 0, .int .i64 0, .int .i64 0, .int .i64 0, .int .i64 0, .int .i64 0, .int .i64 0, .int .i64 0, .int .i64 0, .int .i64 0, .int .i64 0, .int .i64 0, .int .i64 0, .int .i64 0, .int .i64 0] 80)).there (w.heap.size + 1) 0 cs.toArray.size) := there_new _ _ _ _ _ (by rw [hs]; rfl) (by simp)
  have HI : Hid ((Tryz.prog.info? 80).map (·.size) = some cs.length) := by rw [hl]; exact infoSystem
  have HO : Hid (cs.toArray.all (·.oneCell') = true) := all_oneCell_toArray ho
  have BW : Hid (Below w.heap.size w ((w.alloc (.cells #[.slice pa pn pc, .slice sa sn sc, .slice wa wn wc, .slice ha hn hc] 35)).alloc (.cells #[.slice none 0 0, .slice none 0 0, .slice none 0 0, .slice none 0 0, .slice none 0 0, .int .i64 0, .int .i64 0, .int .i64 0, .int .i64 0, .int .i64 0, .int .i64 0, .int .i64 0, .int .i64 0, .int .i64 0, .int .i64 0, .int .i64 0, .int .i64 0, .int .i64 0, .int .i64 0, .int .i64 0, .int .i64 0, .int .i64 0, .int .i64 0, .int .i64 0, .int .i64 0] 80))) := (below_alloc _ _).trans ((below_alloc _ _).mono (by simp))
  have BX : Hid (BoxC ((w.alloc (.cells #[.slice pa pn pc, .slice sa sn sc, .slice wa wn wc, .slice ha hn hc] 35)).alloc (.cells #[.slice none 0 0, .slice none 0 0, .slice none 0 0, .slice none 0 0, .slice none 0 0, .int .i64 0, .int .i64 0, .int .i64 0, .int .i64 0, .int .i64 0, .int .i64 0, .int .i64 0, .int .i64 0, .int .i64 0, .int .i64 0, .int .i64 0, .int .i64 0, .int .i64 0, .int .i64 0, .int .i64 0, .int .i64 0, .int .i64 0, .int .i64 0, .int .i64 0, .int .i64 0] 80)) w.heap.size (.slice pa pn pc) (.slice sa sn sc) (.slice wa wn wc) (.slice ha hn hc)) := (BoxC.new w _ _ _ _ _).below (below_alloc _ _)
  clear hcs hl ho hs
  go_enter Tryz.func43, Tryz.ntmps43
  go_upto_region 1 with fail
  generalize ((w.alloc (.cells #[.slice pa pn pc, .slice sa sn sc, .slice wa wn wc, .slice ha hn hc] 35)).alloc (.cells #[.slice none 0 0, .slice none 0 0, .slice none 0 0, .slice none 0 0, .slice none 0 0, .int .i64 0, .int .i64 0, .int .i64 0, .int .i64 0, .int .i64 0, .int .i64 0, .int .i64 0, .int .i64 0, .int .i64 0, .int .i64 0, .int .i64 0, .int .i64 0, .int .i64 0, .int .i64 0, .int .i64 0, .int .i64 0, .int .i64 0, .int .i64 0, .int .i64 0, .int .i64 0] 80)) = W0 at *
  obtain ⟨k0, k1, k2, k3⟩ := BX.out
  go_upto_region 3 with fail
  go_wp2_with (refine wpList_store_mid rfl 80 (.tmp 2) (.tmp 37) rfl (w.heap.size + 1) 0 cs.toArray rfl (by rw [← HC.out]; rfl) HT.out (by simpa using HI.out) HO.out ?_)
  have HR : Hid ((W0.setCells (w.heap.size + 1) 0 cs).rangeAt (w.heap.size + 1) 0 cs) := World.rangeAt_setCells_same _ _ _ _ (by simpa using HT.out)
  have BE : Hid (Below w.heap.size w (W0.setCells (w.heap.size + 1) 0 cs)) := BW.out.trans ((Touch.sets (P := fun b => b = w.heap.size + 1) rfl _ _ (Touch.refl _ _)).below BW.out.size fun b e => by omega)
  clear HT HC BW BX
  generalize W0.setCells (w.heap.size + 1) 0 cs = W1 at *
  exact bodyPost_ret (results_cell2 Tryz.results43 _ _ (w.heap.size + 1) cs _ rfl HR.out Tryz.underlying80 rfl HI.out) rfl ⟨rfl, BE.out⟩

set_option maxRecDepth 100000 in
set_option maxHeartbeats 1000000 in
theorem systemOf_states (pa : Option Addr) (pn pc : Nat) (sa : Option Addr) (sn sc : Nat) (wa : Option Addr) (wn wc : Nat) (ha : Option Addr) (hn hc : Nat) (w : World) (h1 : ¬ (pn : Int) < 1) (h4 : ¬ (4 : Int) < (pn : Int)) (h5 : ((sn : Int) != (pn : Int)) = true) :
    Calls Tryz.prog 43 #[sysV pa pn pc sa sn sc wa wn wc ha hn hc] w fun e w' => e = .returned (.tuple #[.agg (sysL none 0 0 none 0 0 none 0 0 none 0 0).toArray, .bool false]) ∧ Below w.heap.size w w' := by
  have hl := sysL_len none 0 0 none 0 0 none 0 0 none 0 0
  have ho := sysL_one none 0 0 none 0 0 none 0 0 none 0 0
  generalize hcs : sysL none 0 0 none 0 0 none 0 0 none 0 0 = cs at *
  have HC : Hid (sysL none 0 0 none 0 0 none 0 0 none 0 0 = cs) := hcs
  have hs : cs.toArray.size = 25 := by simpa using hl
  have HT : Hid (((w.alloc (.cells #[.slice pa pn pc, .slice sa sn sc, .slice wa wn wc, .slice ha hn hc] 35)).alloc (.cells #[.slice none 0 0, .slice none 0 0, .slice none 0 0, .slice none 0 0, .slice none 0 0, .int .i64 0, .int .i64 0, .int .i64 0, .int .i64 0, .int .i64 0, .int .i64 0, .int .i64 0, .int .i64 0, .int .i64 0, .int .i64 0, .int .i64 0, .int .i64 0, .int .i64 0, .int .i64 0, .int .i64 0, .int .i64 0, .int .i64 0, .int .i64 0, .int .i64 0, .int .i64 0] 80)).there (w.heap.size + 1) 0 cs.toArray.size) := there_new _ _ _ _ _ (by rw [hs]; rfl) (by simp)
  have HI : Hid ((Tryz.prog.info? 80).map (·.size) = some cs.length) := by rw [hl]; exact infoSystem
  have HO : Hid (cs.toArray.all (·.oneCell') = true) := all_oneCell_toArray ho
  have BW : Hid (Below w.heap.size w ((w.alloc (.cells #[.slice pa pn pc, .slice sa sn sc, .slice wa wn wc, .slice ha hn hc] 35)).alloc (.cells #[.slice none 0 0, .slice none 0 0, .slice none 0 0, .slice none 0 0, .slice none 0 0, .int .i64 0, .int .i64 0, .int .i64 0, .int .i64 0, .int .i64 0, .int .i64 0, .int .i64 0, .int .i64 0, .int .i64 0, .int .i64 0, .int .i64 0, .int .i64 0, .int .i64 0, .int .i64 0, .int .i64 0, .int .i64 0, .int .i64 0, .int .i64 0, .int .i64 0, .int .i64 0] 80))) := (below_alloc _ _).trans ((below_alloc _ _).mono (by simp))
  have BX : Hid (BoxC ((w.alloc (.cells #[.slice pa pn pc, .slice sa sn sc, .slice wa wn wc, .slice ha hn hc] 35)).alloc (.cells #[.slice none 0 0, .slice none 0 0, .slice none 0 0, .slice none 0 0, .slice none 0 0, .int .i64 0, .int .i64 0, .int .i64 0, .int .i64 0, .int .i64 0, .int .i64 0, .int .i64 0, .int .i64 0, .int .i64 0, .int .i64 0, .int .i64 0, .int .i64 0, .int .i64 0, .int .i64 0, .int .i64 0, .int .i64 0, .int .i64 0, .int .i64 0, .int .i64 0, .int .i64 0] 80)) w.heap.size (.slice pa pn pc) (.slice sa sn sc) (.slice wa wn wc) (.slice ha hn hc)) := (BoxC.new w _ _ _ _ _).below (below_alloc _ _)
  clear hcs hl ho hs
  go_enter Tryz.func43, Tryz.ntmps43
  go_upto_region 1 with fail
  generalize ((w.alloc (.cells #[.slice pa pn pc, .slice sa sn sc, .slice wa wn wc, .slice ha hn hc] 35)).alloc (.cells #[.slice none 0 0, .slice none 0 0, .slice none 0 0, .slice none 0 0, .slice none 0 0, .int .i64 0, .int .i64 0, .int .i64 0, .int .i64 0, .int .i64 0, .int .i64 0, .int .i64 0, .int .i64 0, .int .i64 0, .int .i64 0, .int .i64 0, .int .i64 0, .int .i64 0, .int .i64 0, .int .i64 0, .int .i64 0, .int .i64 0, .int .i64 0, .int .i64 0, .int .i64 0] 80)) = W0 at *
  obtain ⟨k0, k1, k2, k3⟩ := BX.out
  go_upto_region 3 with fail
  go_wp2_with (refine wpList_store_mid rfl 80 (.tmp 2) (.tmp 37) rfl (w.heap.size + 1) 0 cs.toArray rfl (by rw [← HC.out]; rfl) HT.out (by simpa using HI.out) HO.out ?_)
  have HR : Hid ((W0.setCells (w.heap.size + 1) 0 cs).rangeAt (w.heap.size + 1) 0 cs) := World.rangeAt_setCells_same _ _ _ _ (by simpa using HT.out)
  have BE : Hid (Below w.heap.size w (W0.setCells (w.heap.size + 1) 0 cs)) := BW.out.trans ((Touch.sets (P := fun b => b = w.heap.size + 1) rfl _ _ (Touch.refl _ _)).below BW.out.size fun b e => by omega)
  clear HT HC BW BX
  generalize W0.setCells (w.heap.size + 1) 0 cs = W1 at *
  exact bodyPost_ret (results_cell2 Tryz.results43 _ _ (w.heap.size + 1) cs _ rfl HR.out Tryz.underlying80 rfl HI.out) rfl ⟨rfl, BE.out⟩

set_option maxRecDepth 100000 in
set_option maxHeartbeats 1000000 in
theorem systemOf_hist (pa : Option Addr) (pn pc : Nat) (sa : Option Addr) (sn sc : Nat) (wa : Option Addr) (wn wc : Nat) (ha : Option Addr) (hn hc : Nat) (w : World) (h1 : ¬ (pn : Int) < 1) (h4 : ¬ (4 : Int) < (pn : Int)) (h5 : ((sn : Int) != (pn : Int)) = false) (h6 : ((hn : Int) != (pn : Int)) = true) :
    Calls Tryz.prog 43 #[sysV pa pn pc sa sn sc wa wn wc ha hn hc] w fun e w' => e = .returned (.tuple #[.agg (sysL none 0 0 none 0 0 none 0 0 none 0 0).toArray, .bool false]) ∧ Below w.heap.size w w' := by
  have hl := sysL_len none 0 0 none 0 0 none 0 0 none 0 0
  have ho := sysL_one none 0 0 none 0 0 none 0 0 none 0 0
  generalize hcs : sysL none 0 0 none 0 0 none 0 0 none 0 0 = cs at *
  have HC : Hid (sysL none 0 0 none 0 0 none 0 0 none 0 0 = cs) := hcs
  have hs : cs.toArray.size = 25 := by simpa using hl
  have HT : Hid (((w.alloc (.cells #[.slice pa pn pc, .slice sa sn sc, .slice wa wn wc, .slice ha hn hc] 35)).alloc (.cells #[.slice none 0 0, .slice none 0 0, .slice none 0 0, .slice none 0 0, .slice none 0 0, .int .i64 0, .int .i64 0, .int .i64 0, .int .i64 0, .int .i64 0, .int .i64 0, .int .i64 0, .int .i64 0, .int .i64 0, .int .i64 0, .int .i64 0, .int .i64 0, .int .i64 0, .int .i64 0, .int .i64 0, .int .i64 0, .int .i64 0, .int .i64 0, .int .i64 0, .int .i64 0] 80)).there (w.heap.size + 1) 0 cs.toArray.size) := there_new _ _ _ _ _ (by rw [hs]; rfl) (by simp)
  have HI : Hid ((Tryz.prog.info? 80).map (·.size) = some cs.length) := by rw [hl]; exact infoSystem
  have HO : Hid (cs.toArray.all (·.oneCell') = true) := all_oneCell_toArray ho
  have BW : Hid (Below w.heap.size w ((w.alloc (.cells #[.slice pa pn pc, .slice sa sn sc, .slice wa wn wc, .slice ha hn hc] 35)).alloc (.cells #[.slice none 0 0, .slice none 0 0, .slice none 0 0, .slice none 0 0, .slice none 0 0, .int .i64 0, .int .i64 0, .int .i64 0, .int .i64 0, .int .i64 0, .int .i64 0, .int .i64 0, .int .i64 0, .int .i64 0, .int .i64 0, .int .i64 0, .int .i64 0, .int .i64 0, .int .i64 0, .int .i64 0, .int .i64 0, .int .i64 0, .int .i64 0, .int .i64 0, .int .i64 0] 80))) := (below_alloc _ _).trans ((below_alloc _ _).mono (by simp))
  have BX : Hid (BoxC ((w.alloc (.cells #[.slice pa pn pc, .slice sa sn sc, .slice wa wn wc, .slice ha hn hc] 35)).alloc (.cells #[.slice none 0 0, .slice none 0 0, .slice none 0 0, .slice none 0 0, .slice none 0 0, .int .i64 0, .int .i64 0, .int .i64 0, .int .i64 0, .int .i64 0, .int .i64 0, .int .i64 0, .int .i64 0, .int .i64 0, .int .i64 0, .int .i64 0, .int .i64 0, .int .i64 0, .int .i64 0, .int .i64 0, .int .i64 0, .int .i64 0, .int .i64 0, .int .i64 0, .int .i64 0] 80)) w.heap.size (.slice pa pn pc) (.slice sa sn sc) (.slice wa wn wc) (.slice ha hn hc)) := (BoxC.new w _ _ _ _ _).below (below_alloc _ _)
  clear hcs hl ho hs
  go_enter Tryz.func43, Tryz.ntmps43
  go_upto_region 1 with fail
  generalize ((w.alloc (.cells #[.slice pa pn pc, .slice sa sn sc, .slice wa wn wc, .slice ha hn hc] 35)).alloc (.cells #[.slice none 0 0, .slice none 0 0, .slice none 0 0, .slice none 0 0, .slice none 0 0, .int .i64 0, .int .i64 0, .int .i64 0, .int .i64 0, .int .i64 0, .int .i64 0, .int .i64 0, .int .i64 0, .int .i64 0, .int .i64 0, .int .i64 0, .int .i64 0, .int .i64 0, .int .i64 0, .int .i64 0, .int .i64 0, .int .i64 0, .int .i64 0, .int .i64 0, .int .i64 0] 80)) = W0 at *
  obtain ⟨k0, k1, k2, k3⟩ := BX.out
  go_upto_region 3 with fail
  go_wp2_with (refine wpList_store_mid rfl 80 (.tmp 2) (.tmp 37) rfl (w.heap.size + 1) 0 cs.toArray rfl (by rw [← HC.out]; rfl) HT.out (by simpa using HI.out) HO.out ?_)
  have HR : Hid ((W0.setCells (w.heap.size + 1) 0 cs).rangeAt (w.heap.size + 1) 0 cs) := World.rangeAt_setCells_same _ _ _ _ (by simpa using HT.out)
  have BE : Hid (Below w.heap.size w (W0.setCells (w.heap.size + 1) 0 cs)) := BW.out.trans ((Touch.sets (P := fun b => b = w.heap.size + 1) rfl _ _ (Touch.refl _ _)).below BW.out.size fun b e => by omega)
  clear HT HC BW BX
  generalize W0.setCells (w.heap.size + 1) 0 cs = W1 at *
  exact bodyPost_ret (results_cell2 Tryz.results43 _ _ (w.heap.size + 1) cs _ rfl HR.out Tryz.underlying80 rfl HI.out) rfl ⟨rfl, BE.out⟩

set_option maxRecDepth 100000 in
set_option maxHeartbeats 1000000 in
theorem systemOf_ways (pa : Option Addr) (pn pc : Nat) (sa : Option Addr) (sn sc : Nat) (wa : Option Addr) (wn wc : Nat) (ha : Option Addr) (hn hc : Nat) (w : World) (h1 : ¬ (pn : Int) < 1) (h4 : ¬ (4 : Int) < (pn : Int)) (h5 : ((sn : Int) != (pn : Int)) = false) (h6 : ((hn : Int) != (pn : Int)) = false) (h8 : 0 ≤ (pn : Int) * (pn : Int)) (h9 : (pn : Int) * (pn : Int) ≤ 16) (h7 : ((wn : Int) != (pn : Int) * (pn : Int)) = true) :
    Calls Tryz.prog 43 #[sysV pa pn pc sa sn sc wa wn wc ha hn hc] w fun e w' => e = .returned (.tuple #[.agg (sysL none 0 0 none 0 0 none 0 0 none 0 0).toArray, .bool false]) ∧ Below w.heap.size w w' := by
  have hl := sysL_len none 0 0 none 0 0 none 0 0 none 0 0
  have ho := sysL_one none 0 0 none 0 0 none 0 0 none 0 0
  generalize hcs : sysL none 0 0 none 0 0 none 0 0 none 0 0 = cs at *
  have HC : Hid (sysL none 0 0 none 0 0 none 0 0 none 0 0 = cs) := hcs
  have hs : cs.toArray.size = 25 := by simpa using hl
  have HT : Hid (((w.alloc (.cells #[.slice pa pn pc, .slice sa sn sc, .slice wa wn wc, .slice ha hn hc] 35)).alloc (.cells #[.slice none 0 0, .slice none 0 0, .slice none 0 0, .slice none 0 0, .slice none 0 0, .int .i64 0, .int .i64 0, .int .i64 0, .int .i64 0, .int .i64 0, .int .i64 0, .int .i64 0, .int .i64 0, .int .i64 0, .int .i64 0, .int .i64 0, .int .i64 0, .int .i64 0, .int .i64 0, .int .i64 0, .int .i64 0, .int .i64 0, .int .i64 0, .int .i64 0, .int .i64 0] 80)).there (w.heap.size + 1) 0 cs.toArray.size) := there_new _ _ _ _ _ (by rw [hs]; rfl) (by simp)
  have HI : Hid ((Tryz.prog.info? 80).map (·.size) = some cs.length) := by rw [hl]; exact infoSystem
  have HO : Hid (cs.toArray.all (·.oneCell') = true) := all_oneCell_toArray ho
  have BW : Hid (Below w.heap.size w ((w.alloc (.cells #[.slice pa pn pc, .slice sa sn sc, .slice wa wn wc, .slice ha hn hc] 35)).alloc (.cells #[.slice none 0 0, .slice none 0 0, .slice none 0 0, .slice none 0 0, .slice none 0 0, .int .i64 0, .int .i64 0, .int .i64 0, .int .i64 0, .int .i64 0, .int .i64 0, .int .i64 0, .int .i64 0, .int .i64 0, .int .i64 0, .int .i64 0, .int .i64 0, .int .i64 0, .int .i64 0, .int .i64 0, .int .i64 0, .int .i64 0, .int .i64 0, .int .i64 0, .int .i64 0] 80))) := (below_alloc _ _).trans ((below_alloc _ _).mono (by simp))
  have BX : Hid (BoxC ((w.alloc (.cells #[.slice pa pn pc, .slice sa sn sc, .slice wa wn wc, .slice ha hn hc] 35)).alloc (.cells #[.slice none 0 0, .slice none 0 0, .slice none 0 0, .slice none 0 0, .slice none 0 0, .int .i64 0, .int .i64 0, .int .i64 0, .int .i64 0, .int .i64 0, .int .i64 0, .int .i64 0, .int .i64 0, .int .i64 0, .int .i64 0, .int .i64 0, .int .i64 0, .int .i64 0, .int .i64 0, .int .i64 0, .int .i64 0, .int .i64 0, .int .i64 0, .int .i64 0, .int .i64 0] 80)) w.heap.size (.slice pa pn pc) (.slice sa sn sc) (.slice wa wn wc) (.slice ha hn hc)) := (BoxC.new w _ _ _ _ _).below (below_alloc _ _)
  clear hcs hl ho hs
  go_enter Tryz.func43, Tryz.ntmps43
  go_upto_region 1 with fail
  generalize ((w.alloc (.cells #[.slice pa pn pc, .slice sa sn sc, .slice wa wn wc, .slice ha hn hc] 35)).alloc (.cells #[.slice none 0 0, .slice none 0 0, .slice none 0 0, .slice none 0 0, .slice none 0 0, .int .i64 0, .int .i64 0, .int .i64 0, .int .i64 0, .int .i64 0, .int .i64 0, .int .i64 0, .int .i64 0, .int .i64 0, .int .i64 0, .int .i64 0, .int .i64 0, .int .i64 0, .int .i64 0, .int .i64 0, .int .i64 0, .int .i64 0, .int .i64 0, .int .i64 0, .int .i64 0] 80)) = W0 at *
  obtain ⟨k0, k1, k2, k3⟩ := BX.out
  go_upto_region 3 with fail
  go_wp2_with (refine wpList_store_mid rfl 80 (.tmp 2) (.tmp 37) rfl (w.heap.size + 1) 0 cs.toArray rfl (by rw [← HC.out]; rfl) HT.out (by simpa using HI.out) HO.out ?_)
  have HR : Hid ((W0.setCells (w.heap.size + 1) 0 cs).rangeAt (w.heap.size + 1) 0 cs) := World.rangeAt_setCells_same _ _ _ _ (by simpa using HT.out)
  have BE : Hid (Below w.heap.size w (W0.setCells (w.heap.size + 1) 0 cs)) := BW.out.trans ((Touch.sets (P := fun b => b = w.heap.size + 1) rfl _ _ (Touch.refl _ _)).below BW.out.size fun b e => by omega)
  clear HT HC BW BX
  generalize W0.setCells (w.heap.size + 1) 0 cs = W1 at *
  exact bodyPost_ret (results_cell2 Tryz.results43 _ _ (w.heap.size + 1) cs _ rfl HR.out Tryz.underlying80 rfl HI.out) rfl ⟨rfl, BE.out⟩

set_option maxRecDepth 100000 in
set_option maxHeartbeats 1000000 in
theorem systemOf_yes (pa : Option Addr) (pn pc : Nat) (sa : Option Addr) (sn sc : Nat) (wa : Option Addr) (wn wc : Nat) (ha : Option Addr) (hn hc : Nat) (w : World) (h1 : ¬ (pn : Int) < 1) (h4 : ¬ (4 : Int) < (pn : Int)) (h5 : ((sn : Int) != (pn : Int)) = false) (h6 : ((hn : Int) != (pn : Int)) = false) (h8 : 0 ≤ (pn : Int) * (pn : Int)) (h9 : (pn : Int) * (pn : Int) ≤ 16) (h7 : ((wn : Int) != (pn : Int) * (pn : Int)) = false) :
    Calls Tryz.prog 43 #[sysV pa pn pc sa sn sc wa wn wc ha hn hc] w fun e w' => e = .returned (.tuple #[.agg (sysL pa pn pc sa sn sc wa wn wc ha hn hc).toArray, .bool true]) ∧ Below w.heap.size w w' := by
  have hl := sysL_len pa pn pc sa sn sc wa wn wc ha hn hc
  have ho := sysL_one pa pn pc sa sn sc wa wn wc ha hn hc
  generalize hcs : sysL pa pn pc sa sn sc wa wn wc ha hn hc = cs at *
  have HC : Hid (sysL pa pn pc sa sn sc wa wn wc ha hn hc = cs) := hcs
  have hs : cs.toArray.size = 25 := by simpa using hl
  have HT : Hid (((w.alloc (.cells #[.slice pa pn pc, .slice sa sn sc, .slice wa wn wc, .slice ha hn hc] 35)).alloc (.cells #[.slice none 0 0, .slice none 0 0, .slice none 0 0, .slice none 0 0, .slice none 0 0, .int .i64 0, .int .i64 0, .int .i64 0, .int .i64 0, .int .i64 0, .int .i64 0, .int .i64 0, .int .i64 0, .int .i64 0, .int .i64 0, .int .i64 0, .int .i64 0, .int .i64 0, .int .i64 0, .int .i64 0, .int .i64 0, .int .i64 0, .int .i64 0, .int .i64 0, .int .i64 0] 80)).there (w.heap.size + 1) 0 cs.toArray.size) := there_new _ _ _ _ _ (by rw [hs]; rfl) (by simp)
  have HI : Hid ((Tryz.prog.info? 80).map (·.size) = some cs.length) := by rw [hl]; exact infoSystem
  have HO : Hid (cs.toArray.all (·.oneCell') = true) := all_oneCell_toArray ho
  have BW : Hid (Below w.heap.size w ((w.alloc (.cells #[.slice pa pn pc, .slice sa sn sc, .slice wa wn wc, .slice ha hn hc] 35)).alloc (.cells #[.slice none 0 0, .slice none 0 0, .slice none 0 0, .slice none 0 0, .slice none 0 0, .int .i64 0, .int .i64 0, .int .i64 0, .int .i64 0, .int .i64 0, .int .i64 0, .int .i64 0, .int .i64 0, .int .i64 0, .int .i64 0, .int .i64 0, .int .i64 0, .int .i64 0, .int .i64 0, .int .i64 0, .int .i64 0, .int .i64 0, .int .i64 0, .int .i64 0, .int .i64 0] 80))) := (below_alloc _ _).trans ((below_alloc _ _).mono (by simp))
  have BX : Hid (BoxC ((w.alloc (.cells #[.slice pa pn pc, .slice sa sn sc, .slice wa wn wc, .slice ha hn hc] 35)).alloc (.cells #[.slice none 0 0, .slice none 0 0, .slice none 0 0, .slice none 0 0, .slice none 0 0, .int .i64 0, .int .i64 0, .int .i64 0, .int .i64 0, .int .i64 0, .int .i64 0, .int .i64 0, .int .i64 0, .int .i64 0, .int .i64 0, .int .i64 0, .int .i64 0, .int .i64 0, .int .i64 0, .int .i64 0, .int .i64 0, .int .i64 0, .int .i64 0, .int .i64 0, .int .i64 0] 80)) w.heap.size (.slice pa pn pc) (.slice sa sn sc) (.slice wa wn wc) (.slice ha hn hc)) := (BoxC.new w _ _ _ _ _).below (below_alloc _ _)
  clear hcs hl ho hs
  go_enter Tryz.func43, Tryz.ntmps43
  go_upto_region 1 with fail
  generalize ((w.alloc (.cells #[.slice pa pn pc, .slice sa sn sc, .slice wa wn wc, .slice ha hn hc] 35)).alloc (.cells #[.slice none 0 0, .slice none 0 0, .slice none 0 0, .slice none 0 0, .slice none 0 0, .int .i64 0, .int .i64 0, .int .i64 0, .int .i64 0, .int .i64 0, .int .i64 0, .int .i64 0, .int .i64 0, .int .i64 0, .int .i64 0, .int .i64 0, .int .i64 0, .int .i64 0, .int .i64 0, .int .i64 0, .int .i64 0, .int .i64 0, .int .i64 0, .int .i64 0, .int .i64 0] 80)) = W0 at *
  obtain ⟨k0, k1, k2, k3⟩ := BX.out
  go_upto_region 4 with fail
  go_wp2_with (refine wpList_store_mid rfl 80 (.tmp 2) (.tmp 42) rfl (w.heap.size + 1) 0 cs.toArray rfl (by rw [← HC.out]; rfl) HT.out (by simpa using HI.out) HO.out ?_)
  have HR : Hid ((W0.setCells (w.heap.size + 1) 0 cs).rangeAt (w.heap.size + 1) 0 cs) := World.rangeAt_setCells_same _ _ _ _ (by simpa using HT.out)
  have BE : Hid (Below w.heap.size w (W0.setCells (w.heap.size + 1) 0 cs)) := BW.out.trans ((Touch.sets (P := fun b => b = w.heap.size + 1) rfl _ _ (Touch.refl _ _)).below BW.out.size fun b e => by omega)
  clear HT HC BW BX
  generalize W0.setCells (w.heap.size + 1) 0 cs = W1 at *
  exact bodyPost_ret (results_cell2 Tryz.results43 _ _ (w.heap.size + 1) cs _ rfl HR.out Tryz.underlying80 rfl HI.out) rfl ⟨rfl, BE.out⟩

end Go.Proofs.YtkpbdcahpkpobabGreatDoor
