/- A step's questions: the walks of the program's queues. -/
import Derived.Test.YtcplnkhdclcgfaaGreatDoorSd0
import Derived.Test.YtcplnkhdclcgfaaGreatDoorSd38
import Derived.Test.YtcplnkhdclcgfaaGreatDoorSd25
import Derived.Deep.RegionWith
namespace Go.Proofs.YtcplnkhdclcgfaaGreatDoor
set_option maxRecDepth 100000
set_option maxHeartbeats 2000000
open Go.ChangeShapes Go.WideShapes Go.ChangeAt Go.RowKit Go.Deep Go.Sort
def sysL (pa : Option Addr) (pn pc : Nat) (sa : Option Addr) (sn sc : Nat) (wa : Option Addr) (wn wc : Nat) (ha : Option Addr) (hn hc : Nat) : List Value :=
 [.slice pa pn pc, .slice sa sn sc, .slice wa wn wc, .slice ha hn hc, .slice ha hn hc, .int .i64 0, .int .i64 0, .int .i64 0, .int .i64 0, .int .i64 0, .int .i64 0, .int .i64 0, .int .i64 0, .int .i64 0, .int .i64 0, .int .i64 0, .int .i64 0, .int .i64 0, .int .i64 0, .int .i64 0, .int .i64 0, .int .i64 0, .int .i64 0, .int .i64 0, .int .i64 0]
theorem sysL_len (pa : Option Addr) (pn pc : Nat) (sa : Option Addr) (sn sc : Nat) (wa : Option Addr) (wn wc : Nat) (ha : Option Addr) (hn hc : Nat) : (sysL pa pn pc sa sn sc wa wn wc ha hn hc).length = 25 := rfl
theorem sysL_one (pa : Option Addr) (pn pc : Nat) (sa : Option Addr) (sn sc : Nat) (wa : Option Addr) (wn wc : Nat) (ha : Option Addr) (hn hc : Nat) : ∀ v ∈ sysL pa pn pc sa sn sc wa wn wc ha hn hc, v.oneCell' = true := by
 intro v hv
 simp only [sysL, List.mem_cons, List.not_mem_nil, or_false] at hv
 rcases hv with rfl | rfl | rfl | rfl | rfl | rfl | rfl | rfl | rfl | rfl | rfl | rfl | rfl | rfl | rfl | rfl | rfl | rfl | rfl | rfl | rfl | rfl | rfl | rfl | rfl <;> rfl
theorem infoSystem : (Tryz.prog.info? 81).map (·.size) = some 25 := by kernel_rfl
theorem results_cell2 {fn : Func} {ra rb : Nat} {ty : TypeId} (h : fn.results = #[.cell ra ty, .tmp rb]) (tmps : Array Value) (w : World) (N : Nat) (cs : List Value) (d : TypeDesc) (ha : tmps.getD ra undef = .pointer (some ⟨N, 0, none⟩)) (hc : w.rangeAt N 0 cs) (hu : Tryz.prog.underlying ty = some d) (hd : d.isRow = true) (hi : (Tryz.prog.info? ty).map (·.size) = some cs.length) :
  (results fn tmps).run Tryz.prog w = .ok (.tuple #[.agg cs.toArray, tmps.getD rb undef]) w := by
 have hl := run_loadVar_mid (P := Tryz.prog) w N 0 ty cs d hc hu hd hi
 rw [Array.getD_eq_getD_getElem?] at ha
 simp [results, h, ha, asAddr, hl]
theorem there_new (w : World) (zs : Array Value) (t : TypeId) (n N : Nat) (hn : zs.size = n) (hN : N = w.heap.size) : (w.alloc (.cells zs t)).there N 0 n := fun j hj => by
 subst hN
 refine ⟨?_, yB _ _ _ _ rfl⟩
 rw [Nat.zero_add, zW _ _ _ j rfl, Array.getElem?_eq_getElem (by omega)]
 rfl
theorem systemOf_less (pa : Option Addr) (pn pc : Nat) (sa : Option Addr) (sn sc : Nat) (wa : Option Addr) (wn wc : Nat) (ha : Option Addr) (hn hc : Nat) (w : World) (h1 : (pn : Int) < 1) :
  Calls Tryz.prog 49 #[sysV pa pn pc sa sn sc wa wn wc ha hn hc] w fun e w' => e = .returned (.tuple #[.agg (sysL none 0 0 none 0 0 none 0 0 none 0 0).toArray, .bool false]) /\ Below w.heap.size w w' := by
 have hl := sysL_len none 0 0 none 0 0 none 0 0 none 0 0
 have ho := sysL_one none 0 0 none 0 0 none 0 0 none 0 0
 generalize hcs : sysL none 0 0 none 0 0 none 0 0 none 0 0 = cs at *
 have HC : Hid (sysL none 0 0 none 0 0 none 0 0 none 0 0 = cs) := hcs
 have hs : cs.toArray.size = 25 := by simpa using hl
 have HT : Hid (((w.alloc (oQ4 pa pn pc sa sn sc wa wn wc ha hn hc)).alloc (zQ5)).there (w.heap.size + 1) 0 cs.toArray.size) := there_new _ _ _ _ _ (by rw [hs]; rfl) (by simp)
 have HI : Hid ((Tryz.prog.info? 81).map (·.size) = some cs.length) := by rw [hl]; exact infoSystem
 have HO : Hid (cs.toArray.all (·.oneCell') = true) := all_oneCell_toArray ho
 have BW : Hid (Below w.heap.size w ((w.alloc (oQ4 pa pn pc sa sn sc wa wn wc ha hn hc)).alloc (zQ5))) := (zT _ _).trans ((zT _ _).mono (by simp))
 have BX : Hid (BoxC ((w.alloc (oQ4 pa pn pc sa sn sc wa wn wc ha hn hc)).alloc (zQ5)) w.heap.size (.slice pa pn pc) (.slice sa sn sc) (.slice wa wn wc) (.slice ha hn hc)) := (BoxC.new w _ _ _ _ _).below (zT _ _)
 clear hcs hl ho hs
 go_enter Tryz.func49, Tryz.ntmps49
 go_upto_region 1 with fail
 generalize ((w.alloc (oQ4 pa pn pc sa sn sc wa wn wc ha hn hc)).alloc (zQ5)) = W0 at *
 obtain ⟨k0, k1, k2, k3⟩ := BX.out
 go_upto_region 3 with fail
 go_wp2_with (refine wpList_store_mid rfl 81 (.tmp 2) (.tmp 37) rfl (w.heap.size + 1) 0 cs.toArray rfl (by rw [<- HC.out]; rfl) HT.out (by simpa using HI.out) HO.out ?_)
 have HR : Hid ((W0.setCells (w.heap.size + 1) 0 cs).rangeAt (w.heap.size + 1) 0 cs) := World.rangeAt_setCells_same _ _ _ _ (by simpa using HT.out)
 have BE : Hid (Below w.heap.size w (W0.setCells (w.heap.size + 1) 0 cs)) := BW.out.trans ((Touch.sets (P := fun b => b = w.heap.size + 1) rfl _ _ (Touch.refl _ _)).below BW.out.size fun b e => by omega)
 clear HT HC BW BX
 generalize W0.setCells (w.heap.size + 1) 0 cs = W1 at *
 exact bodyPost_ret (results_cell2 Tryz.results49 _ _ (w.heap.size + 1) cs _ rfl HR.out Tryz.underlying81 rfl HI.out) rfl ⟨rfl, BE.out⟩
theorem systemOf_more (pa : Option Addr) (pn pc : Nat) (sa : Option Addr) (sn sc : Nat) (wa : Option Addr) (wn wc : Nat) (ha : Option Addr) (hn hc : Nat) (w : World) (h1 : ¬ (pn : Int) < 1) (h4 : (4 : Int) < (pn : Int)) :
  Calls Tryz.prog 49 #[sysV pa pn pc sa sn sc wa wn wc ha hn hc] w fun e w' => e = .returned (.tuple #[.agg (sysL none 0 0 none 0 0 none 0 0 none 0 0).toArray, .bool false]) /\ Below w.heap.size w w' := by
 have hl := sysL_len none 0 0 none 0 0 none 0 0 none 0 0
 have ho := sysL_one none 0 0 none 0 0 none 0 0 none 0 0
 generalize hcs : sysL none 0 0 none 0 0 none 0 0 none 0 0 = cs at *
 have HC : Hid (sysL none 0 0 none 0 0 none 0 0 none 0 0 = cs) := hcs
 have hs : cs.toArray.size = 25 := by simpa using hl
 have HT : Hid (((w.alloc (oQ4 pa pn pc sa sn sc wa wn wc ha hn hc)).alloc (zQ5)).there (w.heap.size + 1) 0 cs.toArray.size) := there_new _ _ _ _ _ (by rw [hs]; rfl) (by simp)
 have HI : Hid ((Tryz.prog.info? 81).map (·.size) = some cs.length) := by rw [hl]; exact infoSystem
 have HO : Hid (cs.toArray.all (·.oneCell') = true) := all_oneCell_toArray ho
 have BW : Hid (Below w.heap.size w ((w.alloc (oQ4 pa pn pc sa sn sc wa wn wc ha hn hc)).alloc (zQ5))) := (zT _ _).trans ((zT _ _).mono (by simp))
 have BX : Hid (BoxC ((w.alloc (oQ4 pa pn pc sa sn sc wa wn wc ha hn hc)).alloc (zQ5)) w.heap.size (.slice pa pn pc) (.slice sa sn sc) (.slice wa wn wc) (.slice ha hn hc)) := (BoxC.new w _ _ _ _ _).below (zT _ _)
 clear hcs hl ho hs
 go_enter Tryz.func49, Tryz.ntmps49
 go_upto_region 1 with fail
 generalize ((w.alloc (oQ4 pa pn pc sa sn sc wa wn wc ha hn hc)).alloc (zQ5)) = W0 at *
 obtain ⟨k0, k1, k2, k3⟩ := BX.out
 go_upto_region 3 with fail
 go_wp2_with (refine wpList_store_mid rfl 81 (.tmp 2) (.tmp 37) rfl (w.heap.size + 1) 0 cs.toArray rfl (by rw [<- HC.out]; rfl) HT.out (by simpa using HI.out) HO.out ?_)
 have HR : Hid ((W0.setCells (w.heap.size + 1) 0 cs).rangeAt (w.heap.size + 1) 0 cs) := World.rangeAt_setCells_same _ _ _ _ (by simpa using HT.out)
 have BE : Hid (Below w.heap.size w (W0.setCells (w.heap.size + 1) 0 cs)) := BW.out.trans ((Touch.sets (P := fun b => b = w.heap.size + 1) rfl _ _ (Touch.refl _ _)).below BW.out.size fun b e => by omega)
 clear HT HC BW BX
 generalize W0.setCells (w.heap.size + 1) 0 cs = W1 at *
 exact bodyPost_ret (results_cell2 Tryz.results49 _ _ (w.heap.size + 1) cs _ rfl HR.out Tryz.underlying81 rfl HI.out) rfl ⟨rfl, BE.out⟩
theorem systemOf_states (pa : Option Addr) (pn pc : Nat) (sa : Option Addr) (sn sc : Nat) (wa : Option Addr) (wn wc : Nat) (ha : Option Addr) (hn hc : Nat) (w : World) (h1 : ¬ (pn : Int) < 1) (h4 : ¬ (4 : Int) < (pn : Int)) (h5 : ((sn : Int) != (pn : Int)) = true) :
  Calls Tryz.prog 49 #[sysV pa pn pc sa sn sc wa wn wc ha hn hc] w fun e w' => e = .returned (.tuple #[.agg (sysL none 0 0 none 0 0 none 0 0 none 0 0).toArray, .bool false]) /\ Below w.heap.size w w' := by
 have hl := sysL_len none 0 0 none 0 0 none 0 0 none 0 0
 have ho := sysL_one none 0 0 none 0 0 none 0 0 none 0 0
 generalize hcs : sysL none 0 0 none 0 0 none 0 0 none 0 0 = cs at *
 have HC : Hid (sysL none 0 0 none 0 0 none 0 0 none 0 0 = cs) := hcs
 have hs : cs.toArray.size = 25 := by simpa using hl
 have HT : Hid (((w.alloc (oQ4 pa pn pc sa sn sc wa wn wc ha hn hc)).alloc (zQ5)).there (w.heap.size + 1) 0 cs.toArray.size) := there_new _ _ _ _ _ (by rw [hs]; rfl) (by simp)
 have HI : Hid ((Tryz.prog.info? 81).map (·.size) = some cs.length) := by rw [hl]; exact infoSystem
 have HO : Hid (cs.toArray.all (·.oneCell') = true) := all_oneCell_toArray ho
 have BW : Hid (Below w.heap.size w ((w.alloc (oQ4 pa pn pc sa sn sc wa wn wc ha hn hc)).alloc (zQ5))) := (zT _ _).trans ((zT _ _).mono (by simp))
 have BX : Hid (BoxC ((w.alloc (oQ4 pa pn pc sa sn sc wa wn wc ha hn hc)).alloc (zQ5)) w.heap.size (.slice pa pn pc) (.slice sa sn sc) (.slice wa wn wc) (.slice ha hn hc)) := (BoxC.new w _ _ _ _ _).below (zT _ _)
 clear hcs hl ho hs
 go_enter Tryz.func49, Tryz.ntmps49
 go_upto_region 1 with fail
 generalize ((w.alloc (oQ4 pa pn pc sa sn sc wa wn wc ha hn hc)).alloc (zQ5)) = W0 at *
 obtain ⟨k0, k1, k2, k3⟩ := BX.out
 go_upto_region 3 with fail
 go_wp2_with (refine wpList_store_mid rfl 81 (.tmp 2) (.tmp 37) rfl (w.heap.size + 1) 0 cs.toArray rfl (by rw [<- HC.out]; rfl) HT.out (by simpa using HI.out) HO.out ?_)
 have HR : Hid ((W0.setCells (w.heap.size + 1) 0 cs).rangeAt (w.heap.size + 1) 0 cs) := World.rangeAt_setCells_same _ _ _ _ (by simpa using HT.out)
 have BE : Hid (Below w.heap.size w (W0.setCells (w.heap.size + 1) 0 cs)) := BW.out.trans ((Touch.sets (P := fun b => b = w.heap.size + 1) rfl _ _ (Touch.refl _ _)).below BW.out.size fun b e => by omega)
 clear HT HC BW BX
 generalize W0.setCells (w.heap.size + 1) 0 cs = W1 at *
 exact bodyPost_ret (results_cell2 Tryz.results49 _ _ (w.heap.size + 1) cs _ rfl HR.out Tryz.underlying81 rfl HI.out) rfl ⟨rfl, BE.out⟩
theorem systemOf_hist (pa : Option Addr) (pn pc : Nat) (sa : Option Addr) (sn sc : Nat) (wa : Option Addr) (wn wc : Nat) (ha : Option Addr) (hn hc : Nat) (w : World) (h1 : ¬ (pn : Int) < 1) (h4 : ¬ (4 : Int) < (pn : Int)) (h5 : ((sn : Int) != (pn : Int)) = false) (h6 : ((hn : Int) != (pn : Int)) = true) :
  Calls Tryz.prog 49 #[sysV pa pn pc sa sn sc wa wn wc ha hn hc] w fun e w' => e = .returned (.tuple #[.agg (sysL none 0 0 none 0 0 none 0 0 none 0 0).toArray, .bool false]) /\ Below w.heap.size w w' := by
 have hl := sysL_len none 0 0 none 0 0 none 0 0 none 0 0
 have ho := sysL_one none 0 0 none 0 0 none 0 0 none 0 0
 generalize hcs : sysL none 0 0 none 0 0 none 0 0 none 0 0 = cs at *
 have HC : Hid (sysL none 0 0 none 0 0 none 0 0 none 0 0 = cs) := hcs
 have hs : cs.toArray.size = 25 := by simpa using hl
 have HT : Hid (((w.alloc (oQ4 pa pn pc sa sn sc wa wn wc ha hn hc)).alloc (zQ5)).there (w.heap.size + 1) 0 cs.toArray.size) := there_new _ _ _ _ _ (by rw [hs]; rfl) (by simp)
 have HI : Hid ((Tryz.prog.info? 81).map (·.size) = some cs.length) := by rw [hl]; exact infoSystem
 have HO : Hid (cs.toArray.all (·.oneCell') = true) := all_oneCell_toArray ho
 have BW : Hid (Below w.heap.size w ((w.alloc (oQ4 pa pn pc sa sn sc wa wn wc ha hn hc)).alloc (zQ5))) := (zT _ _).trans ((zT _ _).mono (by simp))
 have BX : Hid (BoxC ((w.alloc (oQ4 pa pn pc sa sn sc wa wn wc ha hn hc)).alloc (zQ5)) w.heap.size (.slice pa pn pc) (.slice sa sn sc) (.slice wa wn wc) (.slice ha hn hc)) := (BoxC.new w _ _ _ _ _).below (zT _ _)
 clear hcs hl ho hs
 go_enter Tryz.func49, Tryz.ntmps49
 go_upto_region 1 with fail
 generalize ((w.alloc (oQ4 pa pn pc sa sn sc wa wn wc ha hn hc)).alloc (zQ5)) = W0 at *
 obtain ⟨k0, k1, k2, k3⟩ := BX.out
 go_upto_region 3 with fail
 go_wp2_with (refine wpList_store_mid rfl 81 (.tmp 2) (.tmp 37) rfl (w.heap.size + 1) 0 cs.toArray rfl (by rw [<- HC.out]; rfl) HT.out (by simpa using HI.out) HO.out ?_)
 have HR : Hid ((W0.setCells (w.heap.size + 1) 0 cs).rangeAt (w.heap.size + 1) 0 cs) := World.rangeAt_setCells_same _ _ _ _ (by simpa using HT.out)
 have BE : Hid (Below w.heap.size w (W0.setCells (w.heap.size + 1) 0 cs)) := BW.out.trans ((Touch.sets (P := fun b => b = w.heap.size + 1) rfl _ _ (Touch.refl _ _)).below BW.out.size fun b e => by omega)
 clear HT HC BW BX
 generalize W0.setCells (w.heap.size + 1) 0 cs = W1 at *
 exact bodyPost_ret (results_cell2 Tryz.results49 _ _ (w.heap.size + 1) cs _ rfl HR.out Tryz.underlying81 rfl HI.out) rfl ⟨rfl, BE.out⟩
theorem systemOf_ways (pa : Option Addr) (pn pc : Nat) (sa : Option Addr) (sn sc : Nat) (wa : Option Addr) (wn wc : Nat) (ha : Option Addr) (hn hc : Nat) (w : World) (h1 : ¬ (pn : Int) < 1) (h4 : ¬ (4 : Int) < (pn : Int)) (h5 : ((sn : Int) != (pn : Int)) = false) (h6 : ((hn : Int) != (pn : Int)) = false) (h8 : 0 <= (pn : Int) * (pn : Int)) (h9 : (pn : Int) * (pn : Int) <= 16) (h7 : ((wn : Int) != (pn : Int) * (pn : Int)) = true) :
  Calls Tryz.prog 49 #[sysV pa pn pc sa sn sc wa wn wc ha hn hc] w fun e w' => e = .returned (.tuple #[.agg (sysL none 0 0 none 0 0 none 0 0 none 0 0).toArray, .bool false]) /\ Below w.heap.size w w' := by
 have hl := sysL_len none 0 0 none 0 0 none 0 0 none 0 0
 have ho := sysL_one none 0 0 none 0 0 none 0 0 none 0 0
 generalize hcs : sysL none 0 0 none 0 0 none 0 0 none 0 0 = cs at *
 have HC : Hid (sysL none 0 0 none 0 0 none 0 0 none 0 0 = cs) := hcs
 have hs : cs.toArray.size = 25 := by simpa using hl
 have HT : Hid (((w.alloc (oQ4 pa pn pc sa sn sc wa wn wc ha hn hc)).alloc (zQ5)).there (w.heap.size + 1) 0 cs.toArray.size) := there_new _ _ _ _ _ (by rw [hs]; rfl) (by simp)
 have HI : Hid ((Tryz.prog.info? 81).map (·.size) = some cs.length) := by rw [hl]; exact infoSystem
 have HO : Hid (cs.toArray.all (·.oneCell') = true) := all_oneCell_toArray ho
 have BW : Hid (Below w.heap.size w ((w.alloc (oQ4 pa pn pc sa sn sc wa wn wc ha hn hc)).alloc (zQ5))) := (zT _ _).trans ((zT _ _).mono (by simp))
 have BX : Hid (BoxC ((w.alloc (oQ4 pa pn pc sa sn sc wa wn wc ha hn hc)).alloc (zQ5)) w.heap.size (.slice pa pn pc) (.slice sa sn sc) (.slice wa wn wc) (.slice ha hn hc)) := (BoxC.new w _ _ _ _ _).below (zT _ _)
 clear hcs hl ho hs
 go_enter Tryz.func49, Tryz.ntmps49
 go_upto_region 1 with fail
 generalize ((w.alloc (oQ4 pa pn pc sa sn sc wa wn wc ha hn hc)).alloc (zQ5)) = W0 at *
 obtain ⟨k0, k1, k2, k3⟩ := BX.out
 go_upto_region 3 with fail
 go_wp2_with (refine wpList_store_mid rfl 81 (.tmp 2) (.tmp 37) rfl (w.heap.size + 1) 0 cs.toArray rfl (by rw [<- HC.out]; rfl) HT.out (by simpa using HI.out) HO.out ?_)
 have HR : Hid ((W0.setCells (w.heap.size + 1) 0 cs).rangeAt (w.heap.size + 1) 0 cs) := World.rangeAt_setCells_same _ _ _ _ (by simpa using HT.out)
 have BE : Hid (Below w.heap.size w (W0.setCells (w.heap.size + 1) 0 cs)) := BW.out.trans ((Touch.sets (P := fun b => b = w.heap.size + 1) rfl _ _ (Touch.refl _ _)).below BW.out.size fun b e => by omega)
 clear HT HC BW BX
 generalize W0.setCells (w.heap.size + 1) 0 cs = W1 at *
 exact bodyPost_ret (results_cell2 Tryz.results49 _ _ (w.heap.size + 1) cs _ rfl HR.out Tryz.underlying81 rfl HI.out) rfl ⟨rfl, BE.out⟩
theorem systemOf_yes (pa : Option Addr) (pn pc : Nat) (sa : Option Addr) (sn sc : Nat) (wa : Option Addr) (wn wc : Nat) (ha : Option Addr) (hn hc : Nat) (w : World) (h1 : ¬ (pn : Int) < 1) (h4 : ¬ (4 : Int) < (pn : Int)) (h5 : ((sn : Int) != (pn : Int)) = false) (h6 : ((hn : Int) != (pn : Int)) = false) (h8 : 0 <= (pn : Int) * (pn : Int)) (h9 : (pn : Int) * (pn : Int) <= 16) (h7 : ((wn : Int) != (pn : Int) * (pn : Int)) = false) :
  Calls Tryz.prog 49 #[sysV pa pn pc sa sn sc wa wn wc ha hn hc] w fun e w' => e = .returned (.tuple #[.agg (sysL pa pn pc sa sn sc wa wn wc ha hn hc).toArray, .bool true]) /\ Below w.heap.size w w' := by
 have hl := sysL_len pa pn pc sa sn sc wa wn wc ha hn hc
 have ho := sysL_one pa pn pc sa sn sc wa wn wc ha hn hc
 generalize hcs : sysL pa pn pc sa sn sc wa wn wc ha hn hc = cs at *
 have HC : Hid (sysL pa pn pc sa sn sc wa wn wc ha hn hc = cs) := hcs
 have hs : cs.toArray.size = 25 := by simpa using hl
 have HT : Hid (((w.alloc (oQ4 pa pn pc sa sn sc wa wn wc ha hn hc)).alloc (zQ5)).there (w.heap.size + 1) 0 cs.toArray.size) := there_new _ _ _ _ _ (by rw [hs]; rfl) (by simp)
 have HI : Hid ((Tryz.prog.info? 81).map (·.size) = some cs.length) := by rw [hl]; exact infoSystem
 have HO : Hid (cs.toArray.all (·.oneCell') = true) := all_oneCell_toArray ho
 have BW : Hid (Below w.heap.size w ((w.alloc (oQ4 pa pn pc sa sn sc wa wn wc ha hn hc)).alloc (zQ5))) := (zT _ _).trans ((zT _ _).mono (by simp))
 have BX : Hid (BoxC ((w.alloc (oQ4 pa pn pc sa sn sc wa wn wc ha hn hc)).alloc (zQ5)) w.heap.size (.slice pa pn pc) (.slice sa sn sc) (.slice wa wn wc) (.slice ha hn hc)) := (BoxC.new w _ _ _ _ _).below (zT _ _)
 clear hcs hl ho hs
 go_enter Tryz.func49, Tryz.ntmps49
 go_upto_region 1 with fail
 generalize ((w.alloc (oQ4 pa pn pc sa sn sc wa wn wc ha hn hc)).alloc (zQ5)) = W0 at *
 obtain ⟨k0, k1, k2, k3⟩ := BX.out
 go_upto_region 4 with fail
 go_wp2_with (refine wpList_store_mid rfl 81 (.tmp 2) (.tmp 42) rfl (w.heap.size + 1) 0 cs.toArray rfl (by rw [<- HC.out]; rfl) HT.out (by simpa using HI.out) HO.out ?_)
 have HR : Hid ((W0.setCells (w.heap.size + 1) 0 cs).rangeAt (w.heap.size + 1) 0 cs) := World.rangeAt_setCells_same _ _ _ _ (by simpa using HT.out)
 have BE : Hid (Below w.heap.size w (W0.setCells (w.heap.size + 1) 0 cs)) := BW.out.trans ((Touch.sets (P := fun b => b = w.heap.size + 1) rfl _ _ (Touch.refl _ _)).below BW.out.size fun b e => by omega)
 clear HT HC BW BX
 generalize W0.setCells (w.heap.size + 1) 0 cs = W1 at *
 exact bodyPost_ret (results_cell2 Tryz.results49 _ _ (w.heap.size + 1) cs _ rfl HR.out Tryz.underlying81 rfl HI.out) rfl ⟨rfl, BE.out⟩
theorem systemOf_no (pa : Option Addr) (pn pc : Nat) (sa : Option Addr) (sn sc : Nat) (wa : Option Addr) (wn wc : Nat) (ha : Option Addr) (hn hc : Nat) (w : World) (h : ¬ ((1 <= pn /\ pn <= 4) /\ sn = pn /\ hn = pn /\ wn = pn * pn)) :
  Calls Tryz.prog 49 #[sysV pa pn pc sa sn sc wa wn wc ha hn hc] w fun e w' => e = .returned (.tuple #[.agg (sysL none 0 0 none 0 0 none 0 0 none 0 0).toArray, .bool false]) /\ Below w.heap.size w w' := by
 by_cases h1 : (pn : Int) < 1
 ·exact systemOf_less pa pn pc sa sn sc wa wn wc ha hn hc w h1
 by_cases h4 : (4 : Int) < (pn : Int)
 ·exact systemOf_more pa pn pc sa sn sc wa wn wc ha hn hc w h1 h4
 rcases zK ((sn : Int) != (pn : Int)) with h5 | h5
 ·exact systemOf_states pa pn pc sa sn sc wa wn wc ha hn hc w h1 h4 h5
 rcases zK ((hn : Int) != (pn : Int)) with h6 | h6
 ·exact systemOf_hist pa pn pc sa sn sc wa wn wc ha hn hc w h1 h4 h5 h6
 have h8 : 0 <= (pn : Int) * (pn : Int) := Int.mul_nonneg (by omega) (by omega)
 have h9 : (pn : Int) * (pn : Int) <= 16 := by
  have := Int.mul_le_mul (show (pn : Int) <= 4 by omega) (show (pn : Int) <= 4 by omega) (by omega) (by omega)
  omega
 rcases zK ((wn : Int) != (pn : Int) * (pn : Int)) with h7 | h7
 ·exact systemOf_ways pa pn pc sa sn sc wa wn wc ha hn hc w h1 h4 h5 h6 h8 h9 h7
 ·exfalso
  refine h ⟨⟨by omega, by omega⟩, ?_, ?_, ?_⟩
  ·simp at h5
   omega
  ·simp at h6
   omega
  ·have h7' : (wn : Int) = (pn : Int) * (pn : Int) := by simpa using h7
   have : ((wn : Nat) : Int) = ((pn * pn : Nat) : Int) := by rw [h7', Int.natCast_mul]
   omega
theorem systemOf_ok (pa : Option Addr) (pn pc : Nat) (sa : Option Addr) (sn sc : Nat) (wa : Option Addr) (wn wc : Nat) (ha : Option Addr) (hn hc : Nat) (w : World) (h : (1 <= pn /\ pn <= 4) /\ sn = pn /\ hn = pn /\ wn = pn * pn) :
  Calls Tryz.prog 49 #[sysV pa pn pc sa sn sc wa wn wc ha hn hc] w fun e w' => e = .returned (.tuple #[.agg (sysL pa pn pc sa sn sc wa wn wc ha hn hc).toArray, .bool true]) /\ Below w.heap.size w w' := by
 obtain ⟨⟨h1, h4⟩, h5, h6, h7⟩ := h
 have h8 : 0 <= (pn : Int) * (pn : Int) := Int.mul_nonneg (by omega) (by omega)
 have h9 : (pn : Int) * (pn : Int) <= 16 := by
  have := Int.mul_le_mul (show (pn : Int) <= 4 by omega) (show (pn : Int) <= 4 by omega) (by omega) (by omega)
  omega
 exact systemOf_yes pa pn pc sa sn sc wa wn wc ha hn hc w (by omega) (by omega) (by simp [h5]) (by simp [h6]) h8 h9 (by rw [h7, Int.natCast_mul]; simp)
theorem sy_iff {x : SysIn} (hc : (1 <= x.pn /\ x.pn <= 4) /\ x.sn = x.pn /\ x.hn = x.pn /\ x.wn = x.pn * x.pn) :
  ((∀ p, p < x.pn -> progOkB (x.pH p) (x.pL p) x.pn = true) /\ (∀ p, p < x.pn -> x.StP p) /\ (∀ p, p < x.hn -> ∀ i, i < x.hL p -> belB (x.hH p i).q x.hn = true) /\ (∀ i, i < x.wn -> x.WyP i) /\ x.y.hs.Row) ↔ x.y.Ok := by
 obtain ⟨⟨c1, c4⟩, c5, c6, c7⟩ := hc
 refine ⟨fun ⟨a, b, c, d, e⟩ => ⟨⟨⟨c1, c4⟩, c5, c6, c7⟩, a, b, fun p hp i hi => ?_, fun p hp q hq => ?_, e⟩, fun h => ⟨h.pr, h.rp, fun p hp i hi => ?_, fun i hi => ?_, h.ro⟩⟩
 ·have hp' : p < x.pn := hp
  have hi' : i < x.hL p := hi
  have := c p (by omega) i hi'
  simp only [belB, decide_eq_true_eq] at this
  show (x.hH p i).q < (x.pn : Int)
  omega
 ·have hp' : p < x.pn := hp
  have hq' : q < x.pn := hq
  have hlt : p * x.pn + q < x.wn := by
   rw [c7]
   have : (p + 1) * x.pn <= x.pn * x.pn := Nat.mul_le_mul_right _ (by omega)
   rw [Nat.add_mul] at this
   omega
  have h1 : (p * x.pn + q) / x.pn = p := by
   rw [Nat.add_comm, Nat.add_mul_div_right _ _ (by omega), Nat.div_eq_of_lt hq']
   omega
  have h2 : (p * x.pn + q) % x.pn = q := by
   rw [Nat.add_comm, Nat.add_mul_mod_self_right, Nat.mod_eq_of_lt hq']
  obtain ⟨ok, eq⟩ := d _ hlt
  rw [h1, h2] at eq
  simp only [Bool.and_eq_true, decide_eq_true_eq] at ok
  exact ⟨itemsB_iff.1 ok.2, ok.1, eq⟩
 ·have h1 := h.pe p (show p < x.pn by omega) i hi
  have h2 := rp_peer (repO_some (h.rp p (show p < x.pn by omega))).2.2 i hi
  have h3 : (x.hH p i).q < (x.pn : Int) := h1
  have h4 : 0 <= (x.hH p i).q := h2
  simp only [belB, decide_eq_true_eq]
  omega
 ·have hlt : i < x.pn * x.pn := by rw [<- c7]; exact hi
  have ha : i / x.pn < x.pn := Nat.div_lt_of_lt_mul hlt
  have hb : i % x.pn < x.pn := Nat.mod_lt _ (by omega)
  have e : i / x.pn * x.pn + i % x.pn = i := by rw [Nat.mul_comm]; exact Nat.div_add_mod i x.pn
  have h1 : WayP (x.wH (i / x.pn * x.pn + i % x.pn)) (x.wL (i / x.pn * x.pn + i % x.pn)) (valL (x.hH (i % x.pn)) 3 ((i / x.pn : Nat) : Int) (x.hL (i % x.pn))) (valL (x.hH (i / x.pn)) 2 ((i % x.pn : Nat) : Int) (x.hL (i / x.pn))) := h.wa _ ha _ hb
  rw [e] at h1
  refine ⟨?_, h1.eq⟩
  simp only [Bool.and_eq_true, decide_eq_true_eq]
  exact ⟨h1.le, itemsB_iff.2 h1.it⟩
theorem SysG.his {w : World} {x : SysIn} (h : SysG w x) (hn : x.hn = x.pn) : HisE w x.ha x.hA x.hC x.y.hs := by
 refine ⟨?_, fun i hi => h.hi i (by rw [hn]; exact hi)⟩
 show RowS w x.ha x.pn fun i => .slice (x.hA i) (x.hL i) (x.hC i)
 rw [<- hn]
 exact h.h
theorem SysB.of_range {w : World} {X : Nat} {x : SysIn} (h : w.rangeAt X 0 (sysL x.pa x.pn x.pc x.sa x.sn x.sc x.wa x.wn x.wc x.ha x.hn x.hc)) : SysB w X x :=
 ⟨h 0 _ rfl, h 1 _ rfl, h 2 _ rfl, h 3 _ rfl, h 4 _ rfl⟩
theorem HisP.of_range {w : World} {X : Nat} {x : SysIn} (h : w.rangeAt X 0 (sysL x.pa x.pn x.pc x.sa x.sn x.sc x.wa x.wn x.wc x.ha x.hn x.hc)) (hn : x.hn = x.pn) (hf : ∀ j, w.frozen? ⟨X, j, none⟩ = false) : HisP w X x.ha x.hc x.y.hs (fun _ => 0) := by
 have hz : ∀ j, j < 20 -> w.cell? ⟨X, 5 + j, none⟩ = some (.int .i64 0) := fun j hj => by
  have h1 : (sysL x.pa x.pn x.pc x.sa x.sn x.sc x.wa x.wn x.wc x.ha x.hn x.hc)[5 + j]? = some (.int .i64 0) := by
   match j, hj with
   | 0, _ => rfl
   | 1, _ => rfl
   | 2, _ => rfl
   | 3, _ => rfl
   | 4, _ => rfl
   | 5, _ => rfl
   | 6, _ => rfl
   | 7, _ => rfl
   | 8, _ => rfl
   | 9, _ => rfl
   | 10, _ => rfl
   | 11, _ => rfl
   | 12, _ => rfl
   | 13, _ => rfl
   | 14, _ => rfl
   | 15, _ => rfl
   | 16, _ => rfl
   | 17, _ => rfl
   | 18, _ => rfl
   | 19, _ => rfl
   | n + 20, h => exact absurd h (by omega)
  have := h (5 + j) _ h1
  rwa [Nat.zero_add] at this
 refine ⟨?_, fun i hi => hz i (by omega), fun a b ha hb => ?_, hf⟩
 ·have := h 4 _ rfl
  show w.cell? ⟨X, 4, none⟩ = some (.slice x.ha x.pn x.hc)
  rw [<- hn]
  exact this
 ·rw [Hs.opn_start, show 9 + a * 4 + b = 5 + (4 + a * 4 + b) by omega]
  exact hz _ (by omega)
theorem implSysOk_any (x : SysIn) (w : World) (hG : SysG w x) (hL : x.Len) (hV : w.cell? ⟨0, 0, none⟩ = some (.iface 272 (.agg #[.pointer (some ⟨1, 172, none⟩)]))) :
  Calls Tryz.prog 16 #[x.v] w fun e w' => e = .returned (.bool x.y.okB) /\ Below w.heap.size w w' := by
 have HG : Hid (SysG w x) := hG
 have HL : Hid x.Len := hL
 have HV : Hid (w.cell? ⟨0, 0, none⟩ = some (.iface 272 (.agg #[.pointer (some ⟨1, 172, none⟩)]))) := hV
 have HV0 : Hid (0 < w.heap.size) := zJ w _ hV
 have bA := zT w (oQ4 x.pa x.pn x.pc x.sa x.sn x.sc x.wa x.wn x.wc x.ha x.hn x.hc)
 have BA : Hid (Below w.heap.size w (w.alloc (oQ4 x.pa x.pn x.pc x.sa x.sn x.sc x.wa x.wn x.wc x.ha x.hn x.hc))) := bA
 clear hG hL hV bA
 by_cases hc : (1 <= x.pn /\ x.pn <= 4) /\ x.sn = x.pn /\ x.hn = x.pn /\ x.wn = x.pn * x.pn
 case neg =>
  have HN : Hid (x.y.okB = false) := Sy.okB_false fun h => hc h.cn
  have HC : Hid (¬ ((1 <= x.pn /\ x.pn <= 4) /\ x.sn = x.pn /\ x.hn = x.pn /\ x.wn = x.pn * x.pn)) := hc
  clear hc
  go_enter Tryz.func16, Tryz.ntmps16
  go_wp2_with fail
  generalize w.alloc (oQ4 x.pa x.pn x.pc x.sa x.sn x.sc x.wa x.wn x.wc x.ha x.hn x.hc) = wa at *
  refine (systemOf_no _ _ _ _ _ _ _ _ _ _ _ _ wa HC.out).mono ?_
  rintro e w1 ⟨rfl, b1⟩
  have B1 : Hid (Below w.heap.size w w1) := BA.out.trans (b1.mono BA.out.size)
  have hl := sysL_len none 0 0 none 0 0 none 0 0 none 0 0
  have ho := sysL_one none 0 0 none 0 0 none 0 0 none 0 0
  generalize sysL none 0 0 none 0 0 none 0 0 none 0 0 = cs at *
  have hs : cs.toArray.size = 25 := by simpa using hl
  have HI : Hid ((Tryz.prog.info? 81).map (·.size) = some cs.toArray.size) := by rw [hs]; exact infoSystem
  have HO : Hid (cs.toArray.all (·.oneCell') = true) := all_oneCell_toArray ho
  have HT : Hid ((w1.alloc (zQ5)).there w1.heap.size 0 cs.toArray.size) := there_new _ _ _ _ _ (by rw [hs]; rfl) rfl
  have BE : Hid (Below w.heap.size w ((w1.alloc (zQ5)).setCells w1.heap.size 0 cs)) := B1.out.trans ((Touch.sets (P := fun b => b = w1.heap.size) rfl _ _ (Touch.of_below (zT _ _))).below B1.out.size fun b e => by have := B1.out.size; omega)
  clear b1 hl ho hs B1
  go_upto_region 2 with (refine wpList_store_mid rfl 81 (.tmp 3) (.tmp 8) rfl w1.heap.size 0 cs.toArray rfl rfl HT.out HI.out HO.out ?_)
  clear HT HI HO
  generalize (w1.alloc (zQ5)).setCells w1.heap.size 0 cs = w2 at *
  go_wp2
  go_ret
  rw [HN.out]
  exact ⟨rfl, BE.out⟩
 have HC : Hid ((1 <= x.pn /\ x.pn <= 4) /\ x.sn = x.pn /\ x.hn = x.pn /\ x.wn = x.pn * x.pn) := hc
 have HIf := sy_iff hc
 have HIF : Hid (((∀ p, p < x.pn -> progOkB (x.pH p) (x.pL p) x.pn = true) /\ (∀ p, p < x.pn -> x.StP p) /\ (∀ p, p < x.hn -> ∀ i, i < x.hL p -> belB (x.hH p i).q x.hn = true) /\ (∀ i, i < x.wn -> x.WyP i) /\ x.y.hs.Row) ↔ x.y.Ok) := HIf
 clear hc HIf
 go_enter Tryz.func16, Tryz.ntmps16
 go_wp2_with fail
 generalize w.alloc (oQ4 x.pa x.pn x.pc x.sa x.sn x.sc x.wa x.wn x.wc x.ha x.hn x.hc) = wa at *
 refine (systemOf_ok _ _ _ _ _ _ _ _ _ _ _ _ wa HC.out).mono ?_
 rintro e w1 ⟨rfl, b1⟩
 have B1 : Hid (Below w.heap.size w w1) := BA.out.trans (b1.mono BA.out.size)
 have hl := sysL_len x.pa x.pn x.pc x.sa x.sn x.sc x.wa x.wn x.wc x.ha x.hn x.hc
 have ho := sysL_one x.pa x.pn x.pc x.sa x.sn x.sc x.wa x.wn x.wc x.ha x.hn x.hc
 generalize hcs : sysL x.pa x.pn x.pc x.sa x.sn x.sc x.wa x.wn x.wc x.ha x.hn x.hc = cs at *
 have hs : cs.toArray.size = 25 := by simpa using hl
 have HI : Hid ((Tryz.prog.info? 81).map (·.size) = some cs.toArray.size) := by rw [hs]; exact infoSystem
 have HO : Hid (cs.toArray.all (·.oneCell') = true) := all_oneCell_toArray ho
 have HT : Hid ((w1.alloc (zQ5)).there w1.heap.size 0 cs.toArray.size) := there_new _ _ _ _ _ (by rw [hs]; rfl) rfl
 have BE : Hid (Below w.heap.size w ((w1.alloc (zQ5)).setCells w1.heap.size 0 cs) /\ w.heap.size <= w1.heap.size) := ⟨B1.out.trans ((Touch.sets (P := fun b => b = w1.heap.size) rfl _ _ (Touch.of_below (zT _ _))).below B1.out.size fun b e => by have := B1.out.size; omega), B1.out.size⟩
 have HR : (((w1.alloc (zQ5)).setCells w1.heap.size 0 cs).rangeAt w1.heap.size 0 cs) := World.rangeAt_setCells_same _ _ _ _ (by simpa using HT.out)
 have HF : ∀ j, ((w1.alloc (zQ5)).setCells w1.heap.size 0 cs).frozen? ⟨w1.heap.size, j, none⟩ = false := fun j => by
  rw [World.frozen?_setCells]
  exact yB _ _ _ _ rfl
 rw [<- hcs] at HR HF
 have SB2 : Hid (SysB ((w1.alloc (zQ5)).setCells w1.heap.size 0 cs) w1.heap.size x /\ HisP ((w1.alloc (zQ5)).setCells w1.heap.size 0 cs) w1.heap.size x.ha x.hc x.y.hs (fun _ => 0)) := by
  rw [<- hcs]
  exact ⟨SysB.of_range HR, HisP.of_range HR HC.out.2.2.1 HF⟩
 clear b1 hl ho hs B1 hcs HR HF
 go_upto_region 2 with (refine wpList_store_mid rfl 81 (.tmp 3) (.tmp 8) rfl w1.heap.size 0 cs.toArray rfl rfl HT.out HI.out HO.out ?_)
 clear HT HI HO
 generalize (w1.alloc (zQ5)).setCells w1.heap.size 0 cs = w2 at *
 generalize w1.heap.size = X at *
 go_wp2_with fail
 refine (progsOk_any X x w2 SB2.out.1 (HG.out.below BE.out.1) HL.out).mono ?_
 rintro e w3 ⟨rfl, b3⟩
 have B3 : Hid (Below w.heap.size w w3) := BE.out.1.trans (b3.mono BE.out.1.size)
 have SB3 : Hid (SysB w3 X x /\ HisP w3 X x.ha x.hc x.y.hs (fun _ => 0)) := ⟨SB2.out.1.below b3, SB2.out.2.below b3⟩
 clear b3 SB2
 by_cases q1 : ∀ p, p < x.pn -> progOkB (x.pH p) (x.pL p) x.pn = true
 case neg =>
  have HN : Hid (x.y.okB = false) := Sy.okB_false fun h => q1 (HIF.out.2 h).1
  rw [qB_false q1]
  clear q1
  go_wp2
  go_ret
  rw [HN.out]
  exact ⟨rfl, B3.out⟩
 have Q1 : Hid (∀ p, p < x.pn -> progOkB (x.pH p) (x.pL p) x.pn = true) := q1
 rw [qB_true q1]
 clear q1
 go_wp2_with fail
 refine (statesOk_any X x w3 SB3.out.1 (HG.out.below B3.out) HL.out HC.out.2.1 HC.out.2.2.1 ((B3.out.cell (p := ⟨0, 0, none⟩) HV0.out).trans HV.out)).mono ?_
 rintro e w4 ⟨rfl, b4⟩
 have B4 : Hid (Below w.heap.size w w4) := B3.out.trans (b4.mono B3.out.size)
 have SB4 : Hid (SysB w4 X x /\ HisP w4 X x.ha x.hc x.y.hs (fun _ => 0)) := ⟨SB3.out.1.below b4, SB3.out.2.below b4⟩
 clear b4 SB3
 by_cases q2 : ∀ p, p < x.pn -> x.StP p
 case neg =>
  have HN : Hid (x.y.okB = false) := Sy.okB_false fun h => q2 (HIF.out.2 h).2.1
  rw [qB_false q2]
  clear q2
  go_wp2
  go_ret
  rw [HN.out]
  exact ⟨rfl, B4.out⟩
 have Q2 : Hid (∀ p, p < x.pn -> x.StP p) := q2
 have H2 : Hid (∀ p, p < x.hn -> x.hL p <= 200) := fun p hp => (repO_some (Q2.out p (by have := HC.out; omega))).2.1
 rw [qB_true q2]
 clear q2
 go_wp2_with fail
 refine (peersOk_any X x w4 SB4.out.1 (HG.out.below B4.out) HL.out).mono ?_
 rintro e w5 ⟨rfl, b5⟩
 have B5 : Hid (Below w.heap.size w w5) := B4.out.trans (b5.mono B4.out.size)
 have SB5 : Hid (SysB w5 X x /\ HisP w5 X x.ha x.hc x.y.hs (fun _ => 0)) := ⟨SB4.out.1.below b5, SB4.out.2.below b5⟩
 clear b5 SB4
 by_cases q3 : ∀ p, p < x.hn -> ∀ i, i < x.hL p -> belB (x.hH p i).q x.hn = true
 case neg =>
  have HN : Hid (x.y.okB = false) := Sy.okB_false fun h => q3 (HIF.out.2 h).2.2.1
  rw [qB_false q3]
  clear q3
  go_wp2
  go_ret
  rw [HN.out]
  exact ⟨rfl, B5.out⟩
 have Q3 : Hid (∀ p, p < x.hn -> ∀ i, i < x.hL p -> belB (x.hH p i).q x.hn = true) := q3
 rw [qB_true q3]
 clear q3
 go_wp2_with fail
 refine (waysOk_any X x w5 SB5.out.1 (HG.out.below B5.out) HL.out HC.out.2.2.1 HC.out.2.2.2 HC.out.1.1 HC.out.1.2 H2.out).mono ?_
 rintro e w6 ⟨rfl, b6⟩
 have B6 : Hid (Below w.heap.size w w6) := B5.out.trans (b6.mono B5.out.size)
 have SB6 : Hid (SysB w6 X x /\ HisP w6 X x.ha x.hc x.y.hs (fun _ => 0)) := ⟨SB5.out.1.below b6, SB5.out.2.below b6⟩
 clear b6 SB5
 by_cases q4 : ∀ i, i < x.wn -> x.WyP i
 case neg =>
  have HN : Hid (x.y.okB = false) := Sy.okB_false fun h => q4 (HIF.out.2 h).2.2.2.1
  rw [qB_false q4]
  clear q4
  go_wp2
  go_ret
  rw [HN.out]
  exact ⟨rfl, B6.out⟩
 have Q4 : Hid (∀ i, i < x.wn -> x.WyP i) := q4
 rw [qB_true q4]
 clear q4
 have HP : Hid x.y.hs.Peers := fun p hp i hi => by
  have h1 := Q3.out p (by have := HC.out; have : p < x.pn := hp; omega) i hi
  simp only [belB, decide_eq_true_eq] at h1
  rw [HC.out.2.2.1] at h1
  exact h1
 go_wp2_with fail
 refine (canRow_any X x.ha x.hc x.hA x.hC x.y.hs w w6 (HG.out.his HC.out.2.2.1) B6.out BE.out.2 SB6.out.2 HC.out.1.2 HP.out (fun i hi => H2.out i (by have := HC.out; have : i < x.pn := hi; omega))).mono ?_
 rintro e w7 ⟨rfl, b7⟩
 have B7 : Hid (Below w.heap.size w w7) := b7
 have HN : Hid (qB x.y.hs.Row = x.y.okB) := by
  show qB x.y.hs.Row = x.y.okB
  by_cases hr : x.y.hs.Row
  ·rw [qB_true hr, Sy.okB_true (HIF.out.1 ⟨Q1.out, Q2.out, Q3.out, Q4.out, hr⟩)]
  ·rw [qB_false hr, Sy.okB_false fun h => hr (HIF.out.2 h).2.2.2.2]
 rw [HN.out]
 clear b7 HN
 go_wp2
 go_ret
 exact ⟨rfl, B7.out⟩
structure Ev3 (w : World) (N : Nat) : Prop where
 c0 : ∃ v, w.cell? ⟨N, 0, none⟩ = some v
 c1 : ∃ v, w.cell? ⟨N, 1, none⟩ = some v
 c2 : ∃ v, w.cell? ⟨N, 2, none⟩ = some v
 fr : ∀ j, w.frozen? ⟨N, j, none⟩ = false
theorem Ev3.below {w w' : World} {N : Nat} (h : Ev3 w N) (hb : Below w.heap.size w w') : Ev3 w' N := by
 obtain ⟨v, hv⟩ := h.c0
 have hN := hb.block N (zJ w _ hv)
 obtain ⟨v1, hv1⟩ := h.c1
 obtain ⟨v2, hv2⟩ := h.c2
 exact ⟨⟨v, (zH hN).trans hv⟩, ⟨v1, (zH hN).trans hv1⟩, ⟨v2, (zH hN).trans hv2⟩, fun j => (zI hN).trans (h.fr j)⟩
theorem wayNumber_any (x : SysIn) (a b : Nat) (w : World) (ha : a < 4) (hb : b < 4) (hp : x.pn <= 4) :
  Calls Tryz.prog 110 #[x.v, .int .i64 a, .int .i64 b] w fun e w' => e = .returned (.int .i64 (a * x.pn + b : Nat)) /\ Below w.heap.size w w' := by
 have hm0 : 0 <= (a : Int) * (x.pn : Int) := Int.mul_nonneg (by omega) (by omega)
 have hm1 : (a : Int) * (x.pn : Int) <= 16 := by
  have := Int.mul_le_mul (show (a : Int) <= 4 by omega) (show (x.pn : Int) <= 4 by omega) (by omega) (by omega)
  omega
 have hJ : Hid (((a * x.pn + b : Nat) : Int) = (a : Int) * (x.pn : Int) + (b : Int)) := by
  show ((a * x.pn + b : Nat) : Int) = (a : Int) * (x.pn : Int) + (b : Int)
  rw [Int.natCast_add, Int.natCast_mul]
 have hb' : (b : Int) <= 4 := by omega
 go_enter Tryz.func110, Tryz.ntmps110
 go_wp2
 go_ret
 rw [hJ.out]
 exact ⟨rfl, by go_grown⟩
theorem eventQueue_any (x : SysIn) (p : Nat) (w : World) (hG : SysG w x) (hp : p < x.hn) :
  Calls Tryz.prog 106 #[x.v, .int .i64 p] w fun e w' => e = .returned (.agg #[.slice (x.hA p) (x.hL p) (x.hC p), .int .i64 200]) /\ Below w.heap.size w w' := by
 have hp' : (p : Int) < (x.hn : Int) := by omega
 obtain ⟨bh, oh, eh, ch⟩ := hG.h.at hp
 have zb : bh < w.heap.size := zJ w _ ch
 have ch' : ∀ o1 o2, ((w.alloc o1).alloc o2).cell? ⟨bh, oh + p, none⟩ = some (.slice (x.hA p) (x.hL p) (x.hC p)) := fun o1 o2 => (World.cell?_alloc_lt _ _ _ (by simp; omega)).trans ((World.cell?_alloc_lt _ _ _ zb).trans ch)
 rw [show x.v = sysV x.pa x.pn x.pc x.sa x.sn x.sc x.wa x.wn x.wc x.ha x.hn x.hc from rfl, eh]
 clear hG eh ch
 go_enter Tryz.func106, Tryz.ntmps106
 go_wp2
 exact bodyPost_ret (v := .agg #[.slice (x.hA p) (x.hL p) (x.hC p), .int .i64 200]) (by simp [results, Tryz.results106, go_sem]) rfl ⟨rfl, by go_grown⟩
theorem wayQueue_any (x : SysIn) (a b : Nat) (w : World) (hG : SysG w x) (ha : a < 4) (hb : b < 4) (hp : x.pn <= 4) (hJ : a * x.pn + b < x.wn) :
  Calls Tryz.prog 108 #[x.v, .int .i64 a, .int .i64 b] w fun e w' => e = .returned (.agg #[.slice (x.wA (a * x.pn + b)) (x.wL (a * x.pn + b)) (x.wC (a * x.pn + b)), .int .i64 12]) /\ Below w.heap.size w w' := by
 obtain ⟨bh, oh, eh, ch⟩ := hG.w.at hJ
 have HW : Hid (∀ wx, Calls Tryz.prog 110 #[sysV x.pa x.pn x.pc x.sa x.sn x.sc (some ⟨bh, oh, none⟩) x.wn x.wc x.ha x.hn x.hc, .int .i64 a, .int .i64 b] wx fun e w' => e = .returned (.int .i64 (a * x.pn + b : Nat)) /\ Below wx.heap.size wx w') := fun wx => by
  have := wayNumber_any x a b wx ha hb hp
  rw [show x.v = sysV x.pa x.pn x.pc x.sa x.sn x.sc x.wa x.wn x.wc x.ha x.hn x.hc from rfl, eh] at this
  exact this
 rw [show x.v = sysV x.pa x.pn x.pc x.sa x.sn x.sc x.wa x.wn x.wc x.ha x.hn x.hc from rfl, eh]
 generalize a * x.pn + b = J at *
 have hJ' : (J : Int) < (x.wn : Int) := by omega
 have BW : Hid (Below w.heap.size w ((w.alloc (oQ4 x.pa x.pn x.pc x.sa x.sn x.sc (some ⟨bh, oh, none⟩) x.wn x.wc x.ha x.hn x.hc)).alloc (.cells #[.slice none 0 0, .int .i64 0] 141))) := (zT _ _).trans ((zT _ _).mono (by simp))
 have BX : Hid (BoxC ((w.alloc (oQ4 x.pa x.pn x.pc x.sa x.sn x.sc (some ⟨bh, oh, none⟩) x.wn x.wc x.ha x.hn x.hc)).alloc (.cells #[.slice none 0 0, .int .i64 0] 141)) w.heap.size (.slice x.pa x.pn x.pc) (.slice x.sa x.sn x.sc) (.slice (some ⟨bh, oh, none⟩) x.wn x.wc) (.slice x.ha x.hn x.hc)) := (BoxC.new w _ _ _ _ _).below (zT _ _)
 have RX : Hid (((w.alloc (oQ4 x.pa x.pn x.pc x.sa x.sn x.sc (some ⟨bh, oh, none⟩) x.wn x.wc x.ha x.hn x.hc)).alloc (.cells #[.slice none 0 0, .int .i64 0] 141)).cell? ⟨w.heap.size + 1, 0, none⟩ = some (.slice none 0 0) /\ ((w.alloc (oQ4 x.pa x.pn x.pc x.sa x.sn x.sc (some ⟨bh, oh, none⟩) x.wn x.wc x.ha x.hn x.hc)).alloc (.cells #[.slice none 0 0, .int .i64 0] 141)).cell? ⟨w.heap.size + 1, 1, none⟩ = some (.int .i64 0) /\ ∀ j, ((w.alloc (oQ4 x.pa x.pn x.pc x.sa x.sn x.sc (some ⟨bh, oh, none⟩) x.wn x.wc x.ha x.hn x.hc)).alloc (.cells #[.slice none 0 0, .int .i64 0] 141)).frozen? ⟨w.heap.size + 1, j, none⟩ = false) := ⟨zW _ _ _ 0 (by simp), zW _ _ _ 1 (by simp), fun j => yB _ _ _ _ (by simp)⟩
 have HCh : Hid (w.cell? ⟨bh, oh + J, none⟩ = some (.slice (x.wA J) (x.wL J) (x.wC J))) := ch
 have dN : ¬ w.heap.size + 1 = bh := by have := zJ w _ ch; simp at this; omega
 clear hG eh ch
 go_enter Tryz.func108, Tryz.ntmps108
 go_wp2_with fail
 generalize ((w.alloc (oQ4 x.pa x.pn x.pc x.sa x.sn x.sc (some ⟨bh, oh, none⟩) x.wn x.wc x.ha x.hn x.hc)).alloc (.cells #[.slice none 0 0, .int .i64 0] 141)) = W2 at *
 have HC2 : Hid (W2.cell? ⟨bh, oh + J, none⟩ = some (.slice (x.wA J) (x.wL J) (x.wC J))) := (BW.out.cell (p := ⟨bh, oh + J, none⟩) (zJ w _ HCh.out)).trans HCh.out
 obtain ⟨k0, k1, k2, k3⟩ := BX.out
 go_region_law (refine step_call rfl 110 _ _ rfl #[sysV x.pa x.pn x.pc x.sa x.sn x.sc (some ⟨bh, oh, none⟩) x.wn x.wc x.ha x.hn x.hc, .int .i64 a, .int .i64 b] (by simp [Act.eval, sysV]) (yA Tryz.func110 (by kernel_rfl) rfl) (HW.out W2.drew) ?_; rintro e w1 ⟨rfl, b1⟩; refine ⟨_, rfl, ?_⟩; have q1 : Below W2.heap.size W2 w1 := (Below.refl W2.heap.size W2).drew.trans b1; have c1 := (q1.cell (p := ⟨bh, oh + J, none⟩) (zJ W2 _ HC2.out)).trans HC2.out; obtain ⟨m0, m1, m2, m3⟩ := BX.out.below q1; have r0 := (q1.cell (p := ⟨w.heap.size + 1, 0, none⟩) (zJ W2 _ RX.out.1)).trans RX.out.1; have r1 := (q1.cell (p := ⟨w.heap.size + 1, 1, none⟩) (zJ W2 _ RX.out.2.1)).trans RX.out.2.1; have f1 : ∀ j, w1.frozen? ⟨w.heap.size + 1, j, none⟩ = false := fun j => (zI (q1.block (w.heap.size + 1) (zJ W2 ⟨w.heap.size + 1, 0, none⟩ RX.out.1))).trans (RX.out.2.2 j); have Q1 : Hid (Below w.heap.size w w1) := BW.out.trans (q1.mono BW.out.size); clear b1 q1)
 all_goals
  go_wp2
  refine bodyPost_ret (v := .agg #[.slice (x.wA J) (x.wL J) (x.wC J), .int .i64 12]) (by simp [results, Tryz.results108, go_sem, r0, r1]) rfl ⟨rfl, ?_⟩
  exact (Q1.out.setCell (Nat.le_succ _) _).setCell (Nat.le_succ _) _
theorem isFullEvent_any (a : Option Addr) (n c : Nat) (L : Int) (w : World) :
  Calls Tryz.prog 182 #[.agg #[.slice a n c, .int .i64 L]] w fun e w' => e = .returned (.bool (decide (L <= (n : Int)))) /\ Below w.heap.size w w' := by
 go_enter Tryz.func182, Tryz.ntmps182
 go_wp2
 go_ret
 exact ⟨rfl, by go_grown⟩
theorem isFullItem_any (a : Option Addr) (n c : Nat) (L : Int) (w : World) :
  Calls Tryz.prog 183 #[.agg #[.slice a n c, .int .i64 L]] w fun e w' => e = .returned (.bool (decide (L <= (n : Int)))) /\ Below w.heap.size w w' := by
 go_enter Tryz.func183, Tryz.ntmps183
 go_wp2
 go_ret
 exact ⟨rfl, by go_grown⟩
theorem first_any (a : Option Addr) (n c : Nat) (L : Int) (h : Nat -> I2) (w : World) (hn : n <= 1048576) (hI : ItL w a n h) :
  Calls Tryz.prog 181 #[.agg #[.slice a n c, .int .i64 L]] w fun e w' => e = .returned (.tuple #[if n = 0 then itV false 0 else itV (h 0).m (h 0).v, .bool (decide (n ≠ 0))]) /\ Below w.heap.size w w' := by
 by_cases h0 : n = 0
 ·subst h0
  rw [if_pos rfl]
  go_enter Tryz.func181, Tryz.ntmps181
  go_wp2
  exact bodyPost_ret (v := .tuple #[itV false 0, .bool false]) (by simp [results, Tryz.results181, go_sem]) rfl ⟨by simp, by go_grown⟩
 ·obtain ⟨b, off, rfl, zb, c0, c1⟩ := hI.at (k := 0) (by omega)
  have hne : ((n : Int) == 0) = false := by
   have : ¬ (n : Int) = 0 := by omega
   simpa using this
  have hpos : (0 : Int) < (n : Int) := by omega
  rw [if_neg h0]
  have c0' : ∀ o1 o2, ((w.alloc o1).alloc o2).cell? ⟨b, off, none⟩ = some (.bool (h 0).m) := fun o1 o2 => (World.cell?_alloc_lt _ _ _ (by simp; omega)).trans ((World.cell?_alloc_lt _ _ _ zb).trans (by simpa using c0))
  have c1' : ∀ o1 o2, ((w.alloc o1).alloc o2).cell? ⟨b, off + 1, none⟩ = some (.int .i64 (h 0).v) := fun o1 o2 => (World.cell?_alloc_lt _ _ _ (by simp; omega)).trans ((World.cell?_alloc_lt _ _ _ zb).trans (by simpa using c1))
  have hd : decide (n ≠ 0) = true := decide_eq_true h0
  rw [hd]
  clear hI c0 c1 hd
  go_enter Tryz.func181, Tryz.ntmps181
  go_wp2
  exact bodyPost_ret (v := .tuple #[itV (h 0).m (h 0).v, .bool true]) (by simp [results, Tryz.results181, go_sem]) rfl ⟨rfl, by go_grown⟩
theorem peerOf_any (k q v peer : Int) (w : World) :
  Calls Tryz.prog 103 #[evV k q v, .int .i64 peer] w fun e w' => e = .returned (.int .i64 (if q = 9 then peer else q)) /\ Below w.heap.size w w' := by
 rcases zK (q == 9) with t | t
 ·have t' : q = 9 := by simpa using t
  rw [if_pos t']
  clear t'
  go_enter Tryz.func103, Tryz.ntmps103
  go_wp2
  go_ret
  exact ⟨rfl, by go_grown⟩
 ·have t' : ¬ q = 9 := by simpa using t
  rw [if_neg t']
  clear t'
  go_enter Tryz.func103, Tryz.ntmps103
  go_wp2
  go_ret
  exact ⟨rfl, by go_grown⟩
end Go.Proofs.YtcplnkhdclcgfaaGreatDoor
