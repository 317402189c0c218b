/- One call of the program's run. -/
import Derived.Test.YtfdanemmefckpaaGreatDoorOc0
import Derived.Test.YtfdanemmefckpaaGreatDoorOc15
import Derived.Test.YtfdanemmefckpaaGreatDoorOc10
import Derived.Deep.RegionHeld3
import Derived.Deep.CutRange
namespace Go.Proofs.YtfdanemmefckpaaGreatDoor
set_option maxRecDepth 100000
set_option maxHeartbeats 4000000
open Go.RowKit
theorem run_enter {f : FuncId} {fn : Func} {c : Code} (hf : Tryz.prog.funcs[f]? = some fn) (hname : (fn.name == "runtime.NumGoroutine") = false) (hb : fn.body = some c) (args : Array Value) (w : World) :
  (callFunc f args).run Tryz.prog w = .ok (.enter f args) w := by
 have h1 : fn.name ≠ "runtime.NumGoroutine" := by simpa using hname
 simp [callFunc, hf, h1, hb]
theorem stepR_below {w w' : World} {B : Nat} {o1 : Option Addr} {c1 : Nat} {os : List Int} {p' b1 b2 b3 b4 code' : Int} (hO : OwnI w B (.slice o1 os.length c1) os) (hb : Below w.heap.size w w') :
  StepR w B (.slice o1 os.length c1) os p' b1 b2 b3 b4 os code' (.returned (dV p' b1 b2 b3 b4 o1 os.length c1 code')) w' :=
 ⟨o1, c1, rfl, hO.below hb, hO.below hb, grown_any (grown_of_below hb) _, fun _ h => .inl h⟩
theorem settled_set {len k : Nat} {a1 a2 a3 a4 : Int} {os : List Int} {jr : Nat} {v : Int} (hn : numB a1 = true ∧ numB a2 = true ∧ numB a3 = true ∧ numB a4 = true) (h60 : os.length ≤ 60) (hj : jr < 4) :
  settledS len k a1 a2 a3 a4 os (k + 1) (set4 a1 a2 a3 a4 jr v).1 (set4 a1 a2 a3 a4 jr v).2.1 (set4 a1 a2 a3 a4 jr v).2.2.1 (set4 a1 a2 a3 a4 jr v).2.2.2 os 0 = if numB v = true then goS len k ([a1, a2, a3, a4].set jr v) os 0 else ⟨k, [a1, a2, a3, a4], os, 2⟩ := by
 obtain ⟨n1, n2, n3, n4⟩ := hn
 have h1 : regsB ([a1, a2, a3, a4].set jr v) = numB v := by
  match jr, hj with
  | 0, _ => simp [regsB, allN, n2, n3, n4]
  | 1, _ => simp [regsB, allN, n1, n3, n4]
  | 2, _ => simp [regsB, allN, n1, n2, n4]
  | 3, _ => simp [regsB, allN, n1, n2, n3]
 have h2 : ¬ (60 : Int) < (os.length : Int) := by omega
 unfold settledS
 rw [set4_list _ _ _ _ _ _ hj, h1]
 cases hv : numB v
 ·simp
 ·by_cases h3 : (len : Int) ≤ (k : Int) + 1
  ·have h4 : belB ((k : Int) + 1) len = false := by simp [belB]; omega
   simp [h2, h4, goS, goP, goC, h3]
  ·have h4 : belB ((k : Int) + 1) len = true := by simp [belB]; omega
   simp [h2, h4, goS, goP, goC, h3]
theorem settled_same {len k : Nat} {a1 a2 a3 a4 : Int} {os os' : List Int} (hn : numB a1 = true ∧ numB a2 = true ∧ numB a3 = true ∧ numB a4 = true) (h60 : os'.length ≤ 60) :
  settledS len k a1 a2 a3 a4 os (k + 1) a1 a2 a3 a4 os' 0 = goS len k [a1, a2, a3, a4] os' 0 := by
 obtain ⟨n1, n2, n3, n4⟩ := hn
 have h1 : regsB [a1, a2, a3, a4] = true := by simp [regsB, allN, n1, n2, n3, n4]
 have h2 : ¬ (60 : Int) < (os'.length : Int) := by omega
 unfold settledS
 rw [h1]
 by_cases h3 : (len : Int) ≤ (k : Int) + 1
 ·have h4 : belB ((k : Int) + 1) len = false := by simp [belB]; omega
  simp [h2, h4, goS, goP, goC, h3]
 ·have h4 : belB ((k : Int) + 1) len = true := by simp [belB]; omega
  simp [h2, h4, goS, goP, goC, h3]
theorem settled_over {len k : Nat} {a1 a2 a3 a4 p' b1 b2 b3 b4 code' : Int} {os os' : List Int} (h60 : 60 < os'.length) :
  settledS len k a1 a2 a3 a4 os p' b1 b2 b3 b4 os' code' = ⟨k, [a1, a2, a3, a4], os, 2⟩ := by
 unfold settledS
 rw [if_pos (.inr (by omega))]
theorem settled_to {len k : Nat} {a1 a2 a3 a4 n code' : Int} {os : List Int} (hn : numB a1 = true ∧ numB a2 = true ∧ numB a3 = true ∧ numB a4 = true) (h60 : os.length ≤ 60) (hb : belB n len = true) :
  settledS len k a1 a2 a3 a4 os n a1 a2 a3 a4 os code' = ⟨n, [a1, a2, a3, a4], os, code'⟩ := by
 obtain ⟨n1, n2, n3, n4⟩ := hn
 have h1 : regsB [a1, a2, a3, a4] = true := by simp [regsB, allN, n1, n2, n3, n4]
 have h2 : ¬ (60 : Int) < (os.length : Int) := by omega
 unfold settledS
 rw [h1, hb]
 simp [h2]
theorem do_set (b off len cap k : Nat) (g : Nat → I5) (ra oa : Option Addr) (rc oc : Nat) (a1 a2 a3 a4 : Int) (os : List Int) (ek eq ev : Int) (w : World) (jr ja jb : Nat) (hj : (g k).r = jr ∧ (g k).a = ja ∧ (g k).b = jb) (j4 : jr < 4 ∧ ja < 4 ∧ jb < 4) (hn : numB a1 = true ∧ numB a2 = true ∧ numB a3 = true ∧ numB a4 = true) (_hz : ∀ j, j < 4 → numB (zi [a1, a2, a3, a4] j) = true) (hl : (len : Int) ≤ 30) (hb : b < w.heap.size) (hI : InsAt w b off len g) (h60 : os.length ≤ 60) (h1 : Sl w ra [a1, a2, a3, a4]) (h2 : Sl w oa os) (hk : k < len) (hD : canB (nxK g len k [a1, a2, a3, a4] os 0) (nxP g len k [a1, a2, a3, a4] os 0) (nxW g len k [a1, a2, a3, a4] os 0) ek eq ev = true) (ho : (g k).o = 1) :
  Calls Tryz.prog 149 #[.slice (some ⟨b, off, none⟩) len cap, stV k ra 4 rc oa os.length oc 0, evV ek eq ev] w (DoneR w (doneS len (g k) k [a1, a2, a3, a4] os 0 ev) true) := by
 obtain ⟨hjr, hja, hjb⟩ := hj
 obtain ⟨j1, j2, j3⟩ := j4
 have e : settledS len k a1 a2 a3 a4 os (k + 1) (set4 a1 a2 a3 a4 jr ((g k).n)).1 (set4 a1 a2 a3 a4 jr ((g k).n)).2.1 (set4 a1 a2 a3 a4 jr ((g k).n)).2.2.1 (set4 a1 a2 a3 a4 jr ((g k).n)).2.2.2 os 0 = doneS len (g k) k [a1, a2, a3, a4] os 0 ev := by
  rw [settled_set hn h60 j1]
  simp [doneS, ho, calcN, hjr]
 rw [← e]
 refine doIn_step b off len cap k g ra oa rc oc a1 a2 a3 a4 os ek eq ev w 226 (run_enter Tryz.func226 (by kernel_rfl) rfl) (k + 1) (set4 a1 a2 a3 a4 jr ((g k).n)).1 (set4 a1 a2 a3 a4 jr ((g k).n)).2.1 (set4 a1 a2 a3 a4 jr ((g k).n)).2.2.1 (set4 a1 a2 a3 a4 jr ((g k).n)).2.2.2 os 0 (by unfold maxLen; omega) hb hI h60 h1 h2 hk hD (by rw [ho]; exact stepOf_1) (fun o1 c1 B wx hB hO => ?_)
 rw [hjr, hja, hjb]
 refine (step_set _ _ _ _ _ _ _ _ _ jr ja jb _ _ _ _ _ _ (by omega) (by omega) j1).mono ?_
 rintro e w' ⟨rfl, b⟩
 exact stepR_below hO b
theorem do_add (b off len cap k : Nat) (g : Nat → I5) (ra oa : Option Addr) (rc oc : Nat) (a1 a2 a3 a4 : Int) (os : List Int) (ek eq ev : Int) (w : World) (jr ja jb : Nat) (hj : (g k).r = jr ∧ (g k).a = ja ∧ (g k).b = jb) (j4 : jr < 4 ∧ ja < 4 ∧ jb < 4) (hn : numB a1 = true ∧ numB a2 = true ∧ numB a3 = true ∧ numB a4 = true) (_hz : ∀ j, j < 4 → numB (zi [a1, a2, a3, a4] j) = true) (hl : (len : Int) ≤ 30) (hb : b < w.heap.size) (hI : InsAt w b off len g) (h60 : os.length ≤ 60) (h1 : Sl w ra [a1, a2, a3, a4]) (h2 : Sl w oa os) (hk : k < len) (hD : canB (nxK g len k [a1, a2, a3, a4] os 0) (nxP g len k [a1, a2, a3, a4] os 0) (nxW g len k [a1, a2, a3, a4] os 0) ek eq ev = true) (ho : (g k).o = 2) :
  Calls Tryz.prog 149 #[.slice (some ⟨b, off, none⟩) len cap, stV k ra 4 rc oa os.length oc 0, evV ek eq ev] w (DoneR w (doneS len (g k) k [a1, a2, a3, a4] os 0 ev) true) := by
 obtain ⟨hjr, hja, hjb⟩ := hj
 obtain ⟨j1, j2, j3⟩ := j4
 have zA := numB_iff.mp (_hz ja j2)
 have zB := numB_iff.mp (_hz jb j3)
 have zM := mul_bound (_hz ja j2) (_hz jb j3)
 have e : settledS len k a1 a2 a3 a4 os (k + 1) (set4 a1 a2 a3 a4 jr (zi [a1, a2, a3, a4] ja + zi [a1, a2, a3, a4] jb)).1 (set4 a1 a2 a3 a4 jr (zi [a1, a2, a3, a4] ja + zi [a1, a2, a3, a4] jb)).2.1 (set4 a1 a2 a3 a4 jr (zi [a1, a2, a3, a4] ja + zi [a1, a2, a3, a4] jb)).2.2.1 (set4 a1 a2 a3 a4 jr (zi [a1, a2, a3, a4] ja + zi [a1, a2, a3, a4] jb)).2.2.2 os 0 = doneS len (g k) k [a1, a2, a3, a4] os 0 ev := by
  rw [settled_set hn h60 j1]
  simp [doneS, ho, calcN, hjr, hja, hjb]
 rw [← e]
 refine doIn_step b off len cap k g ra oa rc oc a1 a2 a3 a4 os ek eq ev w 227 (run_enter Tryz.func227 (by kernel_rfl) rfl) (k + 1) (set4 a1 a2 a3 a4 jr (zi [a1, a2, a3, a4] ja + zi [a1, a2, a3, a4] jb)).1 (set4 a1 a2 a3 a4 jr (zi [a1, a2, a3, a4] ja + zi [a1, a2, a3, a4] jb)).2.1 (set4 a1 a2 a3 a4 jr (zi [a1, a2, a3, a4] ja + zi [a1, a2, a3, a4] jb)).2.2.1 (set4 a1 a2 a3 a4 jr (zi [a1, a2, a3, a4] ja + zi [a1, a2, a3, a4] jb)).2.2.2 os 0 (by unfold maxLen; omega) hb hI h60 h1 h2 hk hD (by rw [ho]; exact stepOf_2) (fun o1 c1 B wx hB hO => ?_)
 rw [hjr, hja, hjb]
 refine (step_add _ _ _ _ _ _ _ _ _ jr ja jb _ _ _ _ _ _ (by omega) (by omega) j1 j2 j3 zA.1 zA.2 zB.1 zB.2 zM.1 zM.2).mono ?_
 rintro e w' ⟨rfl, b⟩
 exact stepR_below hO b
theorem do_sub (b off len cap k : Nat) (g : Nat → I5) (ra oa : Option Addr) (rc oc : Nat) (a1 a2 a3 a4 : Int) (os : List Int) (ek eq ev : Int) (w : World) (jr ja jb : Nat) (hj : (g k).r = jr ∧ (g k).a = ja ∧ (g k).b = jb) (j4 : jr < 4 ∧ ja < 4 ∧ jb < 4) (hn : numB a1 = true ∧ numB a2 = true ∧ numB a3 = true ∧ numB a4 = true) (_hz : ∀ j, j < 4 → numB (zi [a1, a2, a3, a4] j) = true) (hl : (len : Int) ≤ 30) (hb : b < w.heap.size) (hI : InsAt w b off len g) (h60 : os.length ≤ 60) (h1 : Sl w ra [a1, a2, a3, a4]) (h2 : Sl w oa os) (hk : k < len) (hD : canB (nxK g len k [a1, a2, a3, a4] os 0) (nxP g len k [a1, a2, a3, a4] os 0) (nxW g len k [a1, a2, a3, a4] os 0) ek eq ev = true) (ho : (g k).o = 3) :
  Calls Tryz.prog 149 #[.slice (some ⟨b, off, none⟩) len cap, stV k ra 4 rc oa os.length oc 0, evV ek eq ev] w (DoneR w (doneS len (g k) k [a1, a2, a3, a4] os 0 ev) true) := by
 obtain ⟨hjr, hja, hjb⟩ := hj
 obtain ⟨j1, j2, j3⟩ := j4
 have zA := numB_iff.mp (_hz ja j2)
 have zB := numB_iff.mp (_hz jb j3)
 have zM := mul_bound (_hz ja j2) (_hz jb j3)
 have e : settledS len k a1 a2 a3 a4 os (k + 1) (set4 a1 a2 a3 a4 jr (zi [a1, a2, a3, a4] ja - zi [a1, a2, a3, a4] jb)).1 (set4 a1 a2 a3 a4 jr (zi [a1, a2, a3, a4] ja - zi [a1, a2, a3, a4] jb)).2.1 (set4 a1 a2 a3 a4 jr (zi [a1, a2, a3, a4] ja - zi [a1, a2, a3, a4] jb)).2.2.1 (set4 a1 a2 a3 a4 jr (zi [a1, a2, a3, a4] ja - zi [a1, a2, a3, a4] jb)).2.2.2 os 0 = doneS len (g k) k [a1, a2, a3, a4] os 0 ev := by
  rw [settled_set hn h60 j1]
  simp [doneS, ho, calcN, hjr, hja, hjb]
 rw [← e]
 refine doIn_step b off len cap k g ra oa rc oc a1 a2 a3 a4 os ek eq ev w 228 (run_enter Tryz.func228 (by kernel_rfl) rfl) (k + 1) (set4 a1 a2 a3 a4 jr (zi [a1, a2, a3, a4] ja - zi [a1, a2, a3, a4] jb)).1 (set4 a1 a2 a3 a4 jr (zi [a1, a2, a3, a4] ja - zi [a1, a2, a3, a4] jb)).2.1 (set4 a1 a2 a3 a4 jr (zi [a1, a2, a3, a4] ja - zi [a1, a2, a3, a4] jb)).2.2.1 (set4 a1 a2 a3 a4 jr (zi [a1, a2, a3, a4] ja - zi [a1, a2, a3, a4] jb)).2.2.2 os 0 (by unfold maxLen; omega) hb hI h60 h1 h2 hk hD (by rw [ho]; exact stepOf_3) (fun o1 c1 B wx hB hO => ?_)
 rw [hjr, hja, hjb]
 refine (step_sub _ _ _ _ _ _ _ _ _ jr ja jb _ _ _ _ _ _ (by omega) (by omega) j1 j2 j3 zA.1 zA.2 zB.1 zB.2 zM.1 zM.2).mono ?_
 rintro e w' ⟨rfl, b⟩
 exact stepR_below hO b
theorem do_mul (b off len cap k : Nat) (g : Nat → I5) (ra oa : Option Addr) (rc oc : Nat) (a1 a2 a3 a4 : Int) (os : List Int) (ek eq ev : Int) (w : World) (jr ja jb : Nat) (hj : (g k).r = jr ∧ (g k).a = ja ∧ (g k).b = jb) (j4 : jr < 4 ∧ ja < 4 ∧ jb < 4) (hn : numB a1 = true ∧ numB a2 = true ∧ numB a3 = true ∧ numB a4 = true) (_hz : ∀ j, j < 4 → numB (zi [a1, a2, a3, a4] j) = true) (hl : (len : Int) ≤ 30) (hb : b < w.heap.size) (hI : InsAt w b off len g) (h60 : os.length ≤ 60) (h1 : Sl w ra [a1, a2, a3, a4]) (h2 : Sl w oa os) (hk : k < len) (hD : canB (nxK g len k [a1, a2, a3, a4] os 0) (nxP g len k [a1, a2, a3, a4] os 0) (nxW g len k [a1, a2, a3, a4] os 0) ek eq ev = true) (ho : (g k).o = 4) :
  Calls Tryz.prog 149 #[.slice (some ⟨b, off, none⟩) len cap, stV k ra 4 rc oa os.length oc 0, evV ek eq ev] w (DoneR w (doneS len (g k) k [a1, a2, a3, a4] os 0 ev) true) := by
 obtain ⟨hjr, hja, hjb⟩ := hj
 obtain ⟨j1, j2, j3⟩ := j4
 have zA := numB_iff.mp (_hz ja j2)
 have zB := numB_iff.mp (_hz jb j3)
 have zM := mul_bound (_hz ja j2) (_hz jb j3)
 have e : settledS len k a1 a2 a3 a4 os (k + 1) (set4 a1 a2 a3 a4 jr (zi [a1, a2, a3, a4] ja * zi [a1, a2, a3, a4] jb)).1 (set4 a1 a2 a3 a4 jr (zi [a1, a2, a3, a4] ja * zi [a1, a2, a3, a4] jb)).2.1 (set4 a1 a2 a3 a4 jr (zi [a1, a2, a3, a4] ja * zi [a1, a2, a3, a4] jb)).2.2.1 (set4 a1 a2 a3 a4 jr (zi [a1, a2, a3, a4] ja * zi [a1, a2, a3, a4] jb)).2.2.2 os 0 = doneS len (g k) k [a1, a2, a3, a4] os 0 ev := by
  rw [settled_set hn h60 j1]
  simp [doneS, ho, calcN, hjr, hja, hjb]
 rw [← e]
 refine doIn_step b off len cap k g ra oa rc oc a1 a2 a3 a4 os ek eq ev w 229 (run_enter Tryz.func229 (by kernel_rfl) rfl) (k + 1) (set4 a1 a2 a3 a4 jr (zi [a1, a2, a3, a4] ja * zi [a1, a2, a3, a4] jb)).1 (set4 a1 a2 a3 a4 jr (zi [a1, a2, a3, a4] ja * zi [a1, a2, a3, a4] jb)).2.1 (set4 a1 a2 a3 a4 jr (zi [a1, a2, a3, a4] ja * zi [a1, a2, a3, a4] jb)).2.2.1 (set4 a1 a2 a3 a4 jr (zi [a1, a2, a3, a4] ja * zi [a1, a2, a3, a4] jb)).2.2.2 os 0 (by unfold maxLen; omega) hb hI h60 h1 h2 hk hD (by rw [ho]; exact stepOf_4) (fun o1 c1 B wx hB hO => ?_)
 rw [hjr, hja, hjb]
 refine (step_mul _ _ _ _ _ _ _ _ _ jr ja jb _ _ _ _ _ _ (by omega) (by omega) j1 j2 j3 zA.1 zA.2 zB.1 zB.2 zM.1 zM.2).mono ?_
 rintro e w' ⟨rfl, b⟩
 exact stepR_below hO b
theorem do_less_yes (b off len cap k : Nat) (g : Nat → I5) (ra oa : Option Addr) (rc oc : Nat) (a1 a2 a3 a4 : Int) (os : List Int) (ek eq ev : Int) (w : World) (jr ja jb : Nat) (hj : (g k).r = jr ∧ (g k).a = ja ∧ (g k).b = jb) (j4 : jr < 4 ∧ ja < 4 ∧ jb < 4) (hn : numB a1 = true ∧ numB a2 = true ∧ numB a3 = true ∧ numB a4 = true) (_hz : ∀ j, j < 4 → numB (zi [a1, a2, a3, a4] j) = true) (hl : (len : Int) ≤ 30) (hb : b < w.heap.size) (hI : InsAt w b off len g) (h60 : os.length ≤ 60) (h1 : Sl w ra [a1, a2, a3, a4]) (h2 : Sl w oa os) (hk : k < len) (hD : canB (nxK g len k [a1, a2, a3, a4] os 0) (nxP g len k [a1, a2, a3, a4] os 0) (nxW g len k [a1, a2, a3, a4] os 0) ek eq ev = true) (ho : (g k).o = 5) (hlt : zi [a1, a2, a3, a4] ja < zi [a1, a2, a3, a4] jb) :
  Calls Tryz.prog 149 #[.slice (some ⟨b, off, none⟩) len cap, stV k ra 4 rc oa os.length oc 0, evV ek eq ev] w (DoneR w (doneS len (g k) k [a1, a2, a3, a4] os 0 ev) true) := by
 obtain ⟨hjr, hja, hjb⟩ := hj
 obtain ⟨j1, j2, j3⟩ := j4
 have e : settledS len k a1 a2 a3 a4 os (k + 1) (set4 a1 a2 a3 a4 jr (1)).1 (set4 a1 a2 a3 a4 jr (1)).2.1 (set4 a1 a2 a3 a4 jr (1)).2.2.1 (set4 a1 a2 a3 a4 jr (1)).2.2.2 os 0 = doneS len (g k) k [a1, a2, a3, a4] os 0 ev := by
  rw [settled_set hn h60 j1]
  simp [doneS, ho, calcN, hjr, hja, hjb, hlt]
 rw [← e]
 refine doIn_step b off len cap k g ra oa rc oc a1 a2 a3 a4 os ek eq ev w 230 (run_enter Tryz.func230 (by kernel_rfl) rfl) (k + 1) (set4 a1 a2 a3 a4 jr (1)).1 (set4 a1 a2 a3 a4 jr (1)).2.1 (set4 a1 a2 a3 a4 jr (1)).2.2.1 (set4 a1 a2 a3 a4 jr (1)).2.2.2 os 0 (by unfold maxLen; omega) hb hI h60 h1 h2 hk hD (by rw [ho]; exact stepOf_5) (fun o1 c1 B wx hB hO => ?_)
 rw [hjr, hja, hjb]
 refine (step_less_yes _ _ _ _ _ _ _ _ _ jr ja jb _ _ _ _ _ _ (by omega) (by omega) j1 j2 j3 hlt).mono ?_
 rintro e w' ⟨rfl, b⟩
 exact stepR_below hO b
theorem do_less_no (b off len cap k : Nat) (g : Nat → I5) (ra oa : Option Addr) (rc oc : Nat) (a1 a2 a3 a4 : Int) (os : List Int) (ek eq ev : Int) (w : World) (jr ja jb : Nat) (hj : (g k).r = jr ∧ (g k).a = ja ∧ (g k).b = jb) (j4 : jr < 4 ∧ ja < 4 ∧ jb < 4) (hn : numB a1 = true ∧ numB a2 = true ∧ numB a3 = true ∧ numB a4 = true) (_hz : ∀ j, j < 4 → numB (zi [a1, a2, a3, a4] j) = true) (hl : (len : Int) ≤ 30) (hb : b < w.heap.size) (hI : InsAt w b off len g) (h60 : os.length ≤ 60) (h1 : Sl w ra [a1, a2, a3, a4]) (h2 : Sl w oa os) (hk : k < len) (hD : canB (nxK g len k [a1, a2, a3, a4] os 0) (nxP g len k [a1, a2, a3, a4] os 0) (nxW g len k [a1, a2, a3, a4] os 0) ek eq ev = true) (ho : (g k).o = 5) (hlt : ¬ zi [a1, a2, a3, a4] ja < zi [a1, a2, a3, a4] jb) :
  Calls Tryz.prog 149 #[.slice (some ⟨b, off, none⟩) len cap, stV k ra 4 rc oa os.length oc 0, evV ek eq ev] w (DoneR w (doneS len (g k) k [a1, a2, a3, a4] os 0 ev) true) := by
 obtain ⟨hjr, hja, hjb⟩ := hj
 obtain ⟨j1, j2, j3⟩ := j4
 have e : settledS len k a1 a2 a3 a4 os (k + 1) (set4 a1 a2 a3 a4 jr (0)).1 (set4 a1 a2 a3 a4 jr (0)).2.1 (set4 a1 a2 a3 a4 jr (0)).2.2.1 (set4 a1 a2 a3 a4 jr (0)).2.2.2 os 0 = doneS len (g k) k [a1, a2, a3, a4] os 0 ev := by
  rw [settled_set hn h60 j1]
  simp [doneS, ho, calcN, hjr, hja, hjb, hlt]
 rw [← e]
 refine doIn_step b off len cap k g ra oa rc oc a1 a2 a3 a4 os ek eq ev w 230 (run_enter Tryz.func230 (by kernel_rfl) rfl) (k + 1) (set4 a1 a2 a3 a4 jr (0)).1 (set4 a1 a2 a3 a4 jr (0)).2.1 (set4 a1 a2 a3 a4 jr (0)).2.2.1 (set4 a1 a2 a3 a4 jr (0)).2.2.2 os 0 (by unfold maxLen; omega) hb hI h60 h1 h2 hk hD (by rw [ho]; exact stepOf_5) (fun o1 c1 B wx hB hO => ?_)
 rw [hjr, hja, hjb]
 refine (step_less_no _ _ _ _ _ _ _ _ _ jr ja jb _ _ _ _ _ _ (by omega) (by omega) j1 j2 j3 hlt).mono ?_
 rintro e w' ⟨rfl, b⟩
 exact stepR_below hO b
theorem do_send (b off len cap k : Nat) (g : Nat → I5) (ra oa : Option Addr) (rc oc : Nat) (a1 a2 a3 a4 : Int) (os : List Int) (ek eq ev : Int) (w : World) (jr ja jb : Nat) (hj : (g k).r = jr ∧ (g k).a = ja ∧ (g k).b = jb) (j4 : jr < 4 ∧ ja < 4 ∧ jb < 4) (hn : numB a1 = true ∧ numB a2 = true ∧ numB a3 = true ∧ numB a4 = true) (_hz : ∀ j, j < 4 → numB (zi [a1, a2, a3, a4] j) = true) (hl : (len : Int) ≤ 30) (hb : b < w.heap.size) (hI : InsAt w b off len g) (h60 : os.length ≤ 60) (h1 : Sl w ra [a1, a2, a3, a4]) (h2 : Sl w oa os) (hk : k < len) (hD : canB (nxK g len k [a1, a2, a3, a4] os 0) (nxP g len k [a1, a2, a3, a4] os 0) (nxW g len k [a1, a2, a3, a4] os 0) ek eq ev = true) (ho : (g k).o = 6) :
  Calls Tryz.prog 149 #[.slice (some ⟨b, off, none⟩) len cap, stV k ra 4 rc oa os.length oc 0, evV ek eq ev] w (DoneR w (doneS len (g k) k [a1, a2, a3, a4] os 0 ev) true) := by
 obtain ⟨hjr, hja, hjb⟩ := hj
 obtain ⟨j1, j2, j3⟩ := j4
 have e : settledS len k a1 a2 a3 a4 os (k + 1) a1 a2 a3 a4 os 0 = doneS len (g k) k [a1, a2, a3, a4] os 0 ev := by
  rw [settled_same hn h60]
  simp [doneS, ho]
 rw [← e]
 refine doIn_step b off len cap k g ra oa rc oc a1 a2 a3 a4 os ek eq ev w 231 (run_enter Tryz.func231 (by kernel_rfl) rfl) (k + 1) a1 a2 a3 a4 os 0 (by unfold maxLen; omega) hb hI h60 h1 h2 hk hD (by rw [ho]; exact stepOf_6) (fun o1 c1 B wx hB hO => ?_)
 rw [hjr, hja, hjb]
 refine (step_send _ _ _ _ _ _ _ _ _ jr ja jb _ _ _ _ _ _ (by omega) (by omega)).mono ?_
 rintro e w' ⟨rfl, b⟩
 exact stepR_below hO b
theorem do_take (b off len cap k : Nat) (g : Nat → I5) (ra oa : Option Addr) (rc oc : Nat) (a1 a2 a3 a4 : Int) (os : List Int) (ek eq ev : Int) (w : World) (jr ja jb : Nat) (hj : (g k).r = jr ∧ (g k).a = ja ∧ (g k).b = jb) (j4 : jr < 4 ∧ ja < 4 ∧ jb < 4) (hn : numB a1 = true ∧ numB a2 = true ∧ numB a3 = true ∧ numB a4 = true) (_hz : ∀ j, j < 4 → numB (zi [a1, a2, a3, a4] j) = true) (hl : (len : Int) ≤ 30) (hb : b < w.heap.size) (hI : InsAt w b off len g) (h60 : os.length ≤ 60) (h1 : Sl w ra [a1, a2, a3, a4]) (h2 : Sl w oa os) (hk : k < len) (hD : canB (nxK g len k [a1, a2, a3, a4] os 0) (nxP g len k [a1, a2, a3, a4] os 0) (nxW g len k [a1, a2, a3, a4] os 0) ek eq ev = true) (ho : (g k).o = 7) (hv : numB ev = true) :
  Calls Tryz.prog 149 #[.slice (some ⟨b, off, none⟩) len cap, stV k ra 4 rc oa os.length oc 0, evV ek eq ev] w (DoneR w (doneS len (g k) k [a1, a2, a3, a4] os 0 ev) true) := by
 obtain ⟨hjr, hja, hjb⟩ := hj
 obtain ⟨j1, j2, j3⟩ := j4
 have e : settledS len k a1 a2 a3 a4 os (k + 1) (set4 a1 a2 a3 a4 jr (ev)).1 (set4 a1 a2 a3 a4 jr (ev)).2.1 (set4 a1 a2 a3 a4 jr (ev)).2.2.1 (set4 a1 a2 a3 a4 jr (ev)).2.2.2 os 0 = doneS len (g k) k [a1, a2, a3, a4] os 0 ev := by
  rw [settled_set hn h60 j1, if_pos hv]
  simp [doneS, ho, hjr]
 rw [← e]
 refine doIn_step b off len cap k g ra oa rc oc a1 a2 a3 a4 os ek eq ev w 232 (run_enter Tryz.func232 (by kernel_rfl) rfl) (k + 1) (set4 a1 a2 a3 a4 jr (ev)).1 (set4 a1 a2 a3 a4 jr (ev)).2.1 (set4 a1 a2 a3 a4 jr (ev)).2.2.1 (set4 a1 a2 a3 a4 jr (ev)).2.2.2 os 0 (by unfold maxLen; omega) hb hI h60 h1 h2 hk hD (by rw [ho]; exact stepOf_7) (fun o1 c1 B wx hB hO => ?_)
 rw [hjr, hja, hjb]
 refine (step_take _ _ _ _ _ _ _ _ _ jr ja jb _ _ _ _ _ _ (by omega) (by omega) j1).mono ?_
 rintro e w' ⟨rfl, b⟩
 exact stepR_below hO b
theorem do_print (b off len cap k : Nat) (g : Nat → I5) (ra oa : Option Addr) (rc oc : Nat) (a1 a2 a3 a4 : Int) (os : List Int) (ek eq ev : Int) (w : World) (jr ja jb : Nat) (hj : (g k).r = jr ∧ (g k).a = ja ∧ (g k).b = jb) (j4 : jr < 4 ∧ ja < 4 ∧ jb < 4) (hn : numB a1 = true ∧ numB a2 = true ∧ numB a3 = true ∧ numB a4 = true) (_hz : ∀ j, j < 4 → numB (zi [a1, a2, a3, a4] j) = true) (hl : (len : Int) ≤ 30) (hb : b < w.heap.size) (hI : InsAt w b off len g) (h60 : os.length ≤ 60) (h1 : Sl w ra [a1, a2, a3, a4]) (h2 : Sl w oa os) (hk : k < len) (hD : canB (nxK g len k [a1, a2, a3, a4] os 0) (nxP g len k [a1, a2, a3, a4] os 0) (nxW g len k [a1, a2, a3, a4] os 0) ek eq ev = true) (ho : (g k).o = 8) :
  Calls Tryz.prog 149 #[.slice (some ⟨b, off, none⟩) len cap, stV k ra 4 rc oa os.length oc 0, evV ek eq ev] w (DoneR w (doneS len (g k) k [a1, a2, a3, a4] os 0 ev) true) := by
 obtain ⟨hjr, hja, hjb⟩ := hj
 obtain ⟨j1, j2, j3⟩ := j4
 have e : settledS len k a1 a2 a3 a4 os (k + 1) a1 a2 a3 a4 (os ++ [ev]) 0 = doneS len (g k) k [a1, a2, a3, a4] os 0 ev := by
  by_cases h : os.length = 60
  ·rw [settled_over (by simp; omega)]
   simp [doneS, ho, h]
  ·rw [settled_same hn (by simp; omega)]
   simp [doneS, ho, h]
 rw [← e]
 refine doIn_step b off len cap k g ra oa rc oc a1 a2 a3 a4 os ek eq ev w 233 (run_enter Tryz.func233 (by kernel_rfl) rfl) (k + 1) a1 a2 a3 a4 (os ++ [ev]) 0 (by unfold maxLen; omega) hb hI h60 h1 h2 hk hD (by rw [ho]; exact stepOf_8) (fun o1 c1 B wx hB hO => ?_)
 rw [hjr, hja, hjb]
 refine (step_print _ _ _ _ _ _ _ os _ jr ja jb _ _ _ _ _ B wx (by omega) (by omega) (by omega) hB hO).mono ?_
 rintro e w' ⟨oa', oc', rfl, p1, p2, p3, p4⟩
 have e1 : (os ++ [ev]).length = os.length + 1 := by simp
 unfold StepR
 rw [e1]
 exact ⟨oa', oc', rfl, p1, p2, p3, p4⟩
theorem do_jump (b off len cap k : Nat) (g : Nat → I5) (ra oa : Option Addr) (rc oc : Nat) (a1 a2 a3 a4 : Int) (os : List Int) (ek eq ev : Int) (w : World) (jr ja jb : Nat) (hj : (g k).r = jr ∧ (g k).a = ja ∧ (g k).b = jb) (j4 : jr < 4 ∧ ja < 4 ∧ jb < 4) (hn : numB a1 = true ∧ numB a2 = true ∧ numB a3 = true ∧ numB a4 = true) (_hz : ∀ j, j < 4 → numB (zi [a1, a2, a3, a4] j) = true) (hl : (len : Int) ≤ 30) (hb : b < w.heap.size) (hI : InsAt w b off len g) (h60 : os.length ≤ 60) (h1 : Sl w ra [a1, a2, a3, a4]) (h2 : Sl w oa os) (hk : k < len) (hD : canB (nxK g len k [a1, a2, a3, a4] os 0) (nxP g len k [a1, a2, a3, a4] os 0) (nxW g len k [a1, a2, a3, a4] os 0) ek eq ev = true) (ho : (g k).o = 9) (hb9 : belB (g k).n len = true) :
  Calls Tryz.prog 149 #[.slice (some ⟨b, off, none⟩) len cap, stV k ra 4 rc oa os.length oc 0, evV ek eq ev] w (DoneR w (doneS len (g k) k [a1, a2, a3, a4] os 0 ev) true) := by
 obtain ⟨hjr, hja, hjb⟩ := hj
 obtain ⟨j1, j2, j3⟩ := j4
 have e : settledS len k a1 a2 a3 a4 os (g k).n a1 a2 a3 a4 os 0 = doneS len (g k) k [a1, a2, a3, a4] os 0 ev := by
  rw [settled_to hn h60 hb9]
  simp [doneS, ho]
 rw [← e]
 refine doIn_step b off len cap k g ra oa rc oc a1 a2 a3 a4 os ek eq ev w 234 (run_enter Tryz.func234 (by kernel_rfl) rfl) (g k).n a1 a2 a3 a4 os 0 (by unfold maxLen; omega) hb hI h60 h1 h2 hk hD (by rw [ho]; exact stepOf_9) (fun o1 c1 B wx hB hO => ?_)
 rw [hjr, hja, hjb]
 refine (step_jump _ _ _ _ _ _ _ _ _ jr ja jb _ _ _ _ _ _ (by omega) (by omega)).mono ?_
 rintro e w' ⟨rfl, b⟩
 exact stepR_below hO b
theorem do_zero_yes (b off len cap k : Nat) (g : Nat → I5) (ra oa : Option Addr) (rc oc : Nat) (a1 a2 a3 a4 : Int) (os : List Int) (ek eq ev : Int) (w : World) (jr ja jb : Nat) (hj : (g k).r = jr ∧ (g k).a = ja ∧ (g k).b = jb) (j4 : jr < 4 ∧ ja < 4 ∧ jb < 4) (hn : numB a1 = true ∧ numB a2 = true ∧ numB a3 = true ∧ numB a4 = true) (_hz : ∀ j, j < 4 → numB (zi [a1, a2, a3, a4] j) = true) (hl : (len : Int) ≤ 30) (hb : b < w.heap.size) (hI : InsAt w b off len g) (h60 : os.length ≤ 60) (h1 : Sl w ra [a1, a2, a3, a4]) (h2 : Sl w oa os) (hk : k < len) (hD : canB (nxK g len k [a1, a2, a3, a4] os 0) (nxP g len k [a1, a2, a3, a4] os 0) (nxW g len k [a1, a2, a3, a4] os 0) ek eq ev = true) (ho : (g k).o = 10) (hb9 : belB (g k).n len = true) (hz0 : zi [a1, a2, a3, a4] ja = 0) :
  Calls Tryz.prog 149 #[.slice (some ⟨b, off, none⟩) len cap, stV k ra 4 rc oa os.length oc 0, evV ek eq ev] w (DoneR w (doneS len (g k) k [a1, a2, a3, a4] os 0 ev) true) := by
 obtain ⟨hjr, hja, hjb⟩ := hj
 obtain ⟨j1, j2, j3⟩ := j4
 have e : settledS len k a1 a2 a3 a4 os (g k).n a1 a2 a3 a4 os 0 = doneS len (g k) k [a1, a2, a3, a4] os 0 ev := by
  rw [settled_to hn h60 hb9]
  simp [doneS, ho, hja, hz0]
 rw [← e]
 refine doIn_step b off len cap k g ra oa rc oc a1 a2 a3 a4 os ek eq ev w 235 (run_enter Tryz.func235 (by kernel_rfl) rfl) (g k).n a1 a2 a3 a4 os 0 (by unfold maxLen; omega) hb hI h60 h1 h2 hk hD (by rw [ho]; exact stepOf_10) (fun o1 c1 B wx hB hO => ?_)
 rw [hjr, hja, hjb]
 refine (step_zero_yes _ _ _ _ _ _ _ _ _ jr ja jb _ _ _ _ _ _ (by omega) (by omega) j2 (by simp [hz0])).mono ?_
 rintro e w' ⟨rfl, b⟩
 exact stepR_below hO b
theorem do_zero_no (b off len cap k : Nat) (g : Nat → I5) (ra oa : Option Addr) (rc oc : Nat) (a1 a2 a3 a4 : Int) (os : List Int) (ek eq ev : Int) (w : World) (jr ja jb : Nat) (hj : (g k).r = jr ∧ (g k).a = ja ∧ (g k).b = jb) (j4 : jr < 4 ∧ ja < 4 ∧ jb < 4) (hn : numB a1 = true ∧ numB a2 = true ∧ numB a3 = true ∧ numB a4 = true) (_hz : ∀ j, j < 4 → numB (zi [a1, a2, a3, a4] j) = true) (hl : (len : Int) ≤ 30) (hb : b < w.heap.size) (hI : InsAt w b off len g) (h60 : os.length ≤ 60) (h1 : Sl w ra [a1, a2, a3, a4]) (h2 : Sl w oa os) (hk : k < len) (hD : canB (nxK g len k [a1, a2, a3, a4] os 0) (nxP g len k [a1, a2, a3, a4] os 0) (nxW g len k [a1, a2, a3, a4] os 0) ek eq ev = true) (ho : (g k).o = 10) (hz0 : ¬ zi [a1, a2, a3, a4] ja = 0) :
  Calls Tryz.prog 149 #[.slice (some ⟨b, off, none⟩) len cap, stV k ra 4 rc oa os.length oc 0, evV ek eq ev] w (DoneR w (doneS len (g k) k [a1, a2, a3, a4] os 0 ev) true) := by
 obtain ⟨hjr, hja, hjb⟩ := hj
 obtain ⟨j1, j2, j3⟩ := j4
 have e : settledS len k a1 a2 a3 a4 os (k + 1) a1 a2 a3 a4 os 0 = doneS len (g k) k [a1, a2, a3, a4] os 0 ev := by
  rw [settled_same hn h60]
  simp [doneS, ho, hja, hz0]
 rw [← e]
 refine doIn_step b off len cap k g ra oa rc oc a1 a2 a3 a4 os ek eq ev w 235 (run_enter Tryz.func235 (by kernel_rfl) rfl) (k + 1) a1 a2 a3 a4 os 0 (by unfold maxLen; omega) hb hI h60 h1 h2 hk hD (by rw [ho]; exact stepOf_10) (fun o1 c1 B wx hB hO => ?_)
 rw [hjr, hja, hjb]
 refine (step_zero_no _ _ _ _ _ _ _ _ _ jr ja jb _ _ _ _ _ _ (by omega) (by omega) j2 (by simpa using hz0)).mono ?_
 rintro e w' ⟨rfl, b⟩
 exact stepR_below hO b
theorem do_end (b off len cap k : Nat) (g : Nat → I5) (ra oa : Option Addr) (rc oc : Nat) (a1 a2 a3 a4 : Int) (os : List Int) (ek eq ev : Int) (w : World) (jr ja jb : Nat) (hj : (g k).r = jr ∧ (g k).a = ja ∧ (g k).b = jb) (j4 : jr < 4 ∧ ja < 4 ∧ jb < 4) (hn : numB a1 = true ∧ numB a2 = true ∧ numB a3 = true ∧ numB a4 = true) (_hz : ∀ j, j < 4 → numB (zi [a1, a2, a3, a4] j) = true) (hl : (len : Int) ≤ 30) (hb : b < w.heap.size) (hI : InsAt w b off len g) (h60 : os.length ≤ 60) (h1 : Sl w ra [a1, a2, a3, a4]) (h2 : Sl w oa os) (hk : k < len) (hD : canB (nxK g len k [a1, a2, a3, a4] os 0) (nxP g len k [a1, a2, a3, a4] os 0) (nxW g len k [a1, a2, a3, a4] os 0) ek eq ev = true) (ho : (g k).o = 11) :
  Calls Tryz.prog 149 #[.slice (some ⟨b, off, none⟩) len cap, stV k ra 4 rc oa os.length oc 0, evV ek eq ev] w (DoneR w (doneS len (g k) k [a1, a2, a3, a4] os 0 ev) true) := by
 obtain ⟨hjr, hja, hjb⟩ := hj
 obtain ⟨j1, j2, j3⟩ := j4
 have e : settledS len k a1 a2 a3 a4 os k a1 a2 a3 a4 os 1 = doneS len (g k) k [a1, a2, a3, a4] os 0 ev := by
  rw [settled_to hn h60 (by simp [belB]; omega)]
  simp [doneS, ho]
 rw [← e]
 refine doIn_step b off len cap k g ra oa rc oc a1 a2 a3 a4 os ek eq ev w 236 (run_enter Tryz.func236 (by kernel_rfl) rfl) k a1 a2 a3 a4 os 1 (by unfold maxLen; omega) hb hI h60 h1 h2 hk hD (by rw [ho]; exact stepOf_11) (fun o1 c1 B wx hB hO => ?_)
 rw [hjr, hja, hjb]
 refine (step_end _ _ _ _ _ _ _ _ _ jr ja jb _ _ _ _ _ _ (by omega) (by omega)).mono ?_
 rintro e w' ⟨rfl, b⟩
 exact stepR_below hO b
theorem jump_to {x : I5} {len : Nat} (h : insOkB x.o x.r x.a x.b x.n len 4 = true) (h9 : x.o = 9 ∨ x.o = 10) : belB x.n len = true := by
 simp only [insOkB, Bool.and_eq_true] at h
 have h5 := h.2
 unfold opOkB at h5
 rcases h9 with h9 | h9 <;> (rw [h9] at h5; simp [belB] at h5 ⊢; omega)
theorem doIn_any (b off len cap : Nat) (g : Nat → I5) (p code : Int) (ra oa : Option Addr) (rc oc : Nat) (rs os : List Int) (ek eq ev : Int) (w : World) (hlen : len ≤ maxLen) (hb : b < w.heap.size) (hI : InsAt w b off len g) (hr : rs.length ≤ 1048576) (ho : os.length ≤ 1048576) (h1 : Sl w ra rs) (h2 : Sl w oa os) (hP : progOkB g len 4 = true) :
  Calls Tryz.prog 149 #[.slice (some ⟨b, off, none⟩) len cap, stV p ra rs.length rc oa os.length oc code, evV ek eq ev] w (DoneR w (doS g len p rs os code ek eq ev) (doB g len p rs os code ek eq ev)) := by
 rcases Bool.eq_false_or_eq_true (doB g len p rs os code ek eq ev) with hB | hB
 case inr =>
  have hS : doS g len p rs os code ek eq ev = ⟨p, rs, os, code⟩ := by
   unfold doS
   rw [if_neg (by rw [hB]; decide)]
  rw [hB, hS]
  exact doIn_no b off len cap g p code ra oa rc oc rs os ek eq ev w hlen hb hI hr ho h1 h2 hB hP
 have hR := doB_right hB
 obtain ⟨hp, hs, rfl⟩ := right_parts hR
 obtain ⟨⟨a1, a2, a3, a4, rfl, n1, n2, n3, n4⟩, ⟨k, rfl, hk⟩, h60, -⟩ := st_parts hs
 have hS : doS g len k [a1, a2, a3, a4] os 0 ek eq ev = doneS len (g k) k [a1, a2, a3, a4] os 0 ev := by
  unfold doS
  rw [if_pos hB, Int.toNat_natCast]
 rw [hB, hS]
 have hl : (len : Int) ≤ 30 := by
  simp only [progOkB, Bool.and_eq_true] at hp
  have := hp.2.1
  simp [inB] at this
  omega
 have hins := right_ins hp hk
 obtain ⟨⟨o1, o11⟩, ⟨r0, r3⟩, ⟨m0, m3⟩, ⟨q0, q3⟩⟩ := ins_range hins
 have hn : numB a1 = true ∧ numB a2 = true ∧ numB a3 = true ∧ numB a4 = true := ⟨n1, n2, n3, n4⟩
 have hz : ∀ j, j < 4 → numB (zi [a1, a2, a3, a4] j) = true := fun j hj => by
  match j, hj with
  | 0, _ => exact n1
  | 1, _ => exact n2
  | 2, _ => exact n3
  | 3, _ => exact n4
 have hj : (g k).r = ((g k).r.toNat : Int) ∧ (g k).a = ((g k).a.toNat : Int) ∧ (g k).b = ((g k).b.toNat : Int) := ⟨by omega, by omega, by omega⟩
 have j4 : (g k).r.toNat < 4 ∧ (g k).a.toNat < 4 ∧ (g k).b.toNat < 4 := ⟨by omega, by omega, by omega⟩
 rcases opCases (g k).o with h | h | h | h | h | h | h | h | h | h | h | h
 ·omega
 ·exact do_set b off len cap k g ra oa rc oc a1 a2 a3 a4 os ek eq ev w _ _ _ hj j4 hn hz hl hb hI h60 h1 h2 hk hB h
 ·exact do_add b off len cap k g ra oa rc oc a1 a2 a3 a4 os ek eq ev w _ _ _ hj j4 hn hz hl hb hI h60 h1 h2 hk hB h
 ·exact do_sub b off len cap k g ra oa rc oc a1 a2 a3 a4 os ek eq ev w _ _ _ hj j4 hn hz hl hb hI h60 h1 h2 hk hB h
 ·exact do_mul b off len cap k g ra oa rc oc a1 a2 a3 a4 os ek eq ev w _ _ _ hj j4 hn hz hl hb hI h60 h1 h2 hk hB h
 ·by_cases hlt : zi [a1, a2, a3, a4] (g k).a.toNat < zi [a1, a2, a3, a4] (g k).b.toNat
  ·exact do_less_yes b off len cap k g ra oa rc oc a1 a2 a3 a4 os ek eq ev w _ _ _ hj j4 hn hz hl hb hI h60 h1 h2 hk hB h hlt
  ·exact do_less_no b off len cap k g ra oa rc oc a1 a2 a3 a4 os ek eq ev w _ _ _ hj j4 hn hz hl hb hI h60 h1 h2 hk hB h hlt
 ·exact do_send b off len cap k g ra oa rc oc a1 a2 a3 a4 os ek eq ev w _ _ _ hj j4 hn hz hl hb hI h60 h1 h2 hk hB h
 ·have hv : numB ev = true := by
   have hc := hB
   unfold doB nxK at hc
   rw [if_pos hR, Int.toNat_natCast, h, show evK 7 = 3 from rfl, canB_take] at hc
   simp only [Bool.and_eq_true] at hc
   exact hc.1.2
  exact do_take b off len cap k g ra oa rc oc a1 a2 a3 a4 os ek eq ev w _ _ _ hj j4 hn hz hl hb hI h60 h1 h2 hk hB h hv
 ·exact do_print b off len cap k g ra oa rc oc a1 a2 a3 a4 os ek eq ev w _ _ _ hj j4 hn hz hl hb hI h60 h1 h2 hk hB h
 ·exact do_jump b off len cap k g ra oa rc oc a1 a2 a3 a4 os ek eq ev w _ _ _ hj j4 hn hz hl hb hI h60 h1 h2 hk hB h (jump_to hins (.inl h))
 ·by_cases hz0 : zi [a1, a2, a3, a4] (g k).a.toNat = 0
  ·exact do_zero_yes b off len cap k g ra oa rc oc a1 a2 a3 a4 os ek eq ev w _ _ _ hj j4 hn hz hl hb hI h60 h1 h2 hk hB h (jump_to hins (.inr h)) hz0
  ·exact do_zero_no b off len cap k g ra oa rc oc a1 a2 a3 a4 os ek eq ev w _ _ _ hj j4 hn hz hl hb hI h60 h1 h2 hk hB h hz0
 ·exact do_end b off len cap k g ra oa rc oc a1 a2 a3 a4 os ek eq ev w _ _ _ hj j4 hn hz hl hb hI h60 h1 h2 hk hB h
theorem stOk_mk {n : Nat} {p code : Int} {rs os : List Int} (h1 : rs.length = 4) (h2 : allN rs = true) (h3 : 0 ≤ code ∧ code ≤ 2) (h4 : belB p n = true) (h5 : os.length ≤ 60) (h6 : allN os = true) : stOkB n p rs os code = true := by
 have e : inB code 0 2 = true := by simp [inB]; omega
 have e5 : ((os.length : Int) ≤ 60) := by omega
 simp [stOkB, regsB, outB, h1, h2, e, h4, e5, h6]
theorem allN_set {xs : List Int} {j : Nat} {v : Int} (h : allN xs = true) (hv : numB v = true) : allN (xs.set j v) = true := by
 unfold allN at h ⊢
 rw [List.all_eq_true] at h ⊢
 intro x hx
 rcases List.mem_or_eq_of_mem_set hx with h1 | h1
 ·exact h x h1
 ·rw [h1]; exact hv
def OkS (len : Nat) (S : S4) : Prop := stOkB len S.p S.rs S.os S.c = true
theorem goS_ok {len k : Nat} {rs os : List Int} (hk : k < len) (h1 : rs.length = 4) (h2 : allN rs = true) (h5 : os.length ≤ 60) (h6 : allN os = true) : OkS len (goS len k rs os 0) := by
 unfold OkS goS goP goC
 by_cases h : (len : Int) ≤ (k : Int) + 1
 ·simp only [h, if_true]
  exact stOk_mk h1 h2 (by omega) (by simp [belB]; omega) h5 h6
 ·simp only [h, if_false]
  exact stOk_mk h1 h2 (by omega) (by simp [belB]; omega) h5 h6
theorem doS_ok {g : Nat → I5} {len : Nat} {p : Int} {rs os : List Int} {code ek eq ev : Int} (hB : doB g len p rs os code ek eq ev = true) : OkS len (doS g len p rs os code ek eq ev) := by
 have hR := doB_right hB
 obtain ⟨hp, hs, rfl⟩ := right_parts hR
 obtain ⟨⟨a1, a2, a3, a4, rfl, n1, n2, n3, n4⟩, ⟨k, rfl, hk⟩, h60, hN⟩ := st_parts hs
 have hS : doS g len k [a1, a2, a3, a4] os 0 ek eq ev = doneS len (g k) k [a1, a2, a3, a4] os 0 ev := by
  unfold doS
  rw [if_pos hB, Int.toNat_natCast]
 rw [hS]
 have hins := right_ins hp hk
 obtain ⟨⟨o1, o11⟩, ⟨r0, r3⟩, ⟨m0, m3⟩, ⟨q0, q3⟩⟩ := ins_range hins
 have hA : allN [a1, a2, a3, a4] = true := by simp [allN, n1, n2, n3, n4]
 have hz : ∀ j, j < 4 → numB (zi [a1, a2, a3, a4] j) = true := fun j hj => by
  match j, hj with
  | 0, _ => exact n1
  | 1, _ => exact n2
  | 2, _ => exact n3
  | 3, _ => exact n4
 have hkB : belB (k : Int) len = true := by simp [belB]; omega
 have hc := hB
 unfold doB nxK nxP nxW at hc
 rw [if_pos hR, if_pos hR, if_pos hR, Int.toNat_natCast] at hc
 have v7 : (g k).o = 7 → numB ev = true := fun h => by
  rw [h, show evK 7 = 3 from rfl, canB_take] at hc
  simp only [Bool.and_eq_true] at hc
  exact hc.1.2
 have v8 : (g k).o = 8 → numB ev = true := fun h => by
  rw [h, show evK 8 = 4 from rfl, canB_other (by decide) (by decide)] at hc
  unfold evEqB at hc
  simp only [Bool.and_eq_true, beq_iff_eq] at hc
  rw [hc.2.2]
  exact hz _ (by omega)
 unfold doneS
 split
 ·exact goS_ok hk rfl hA h60 hN
 split
 ·rename_i h7
  exact goS_ok hk (by simp) (allN_set hA (v7 h7)) h60 hN
 split
 ·rename_i h8
  split
  ·exact stOk_mk rfl hA (by simp) hkB h60 hN
  ·refine goS_ok hk rfl hA (by simp; omega) ?_
   unfold allN at hN ⊢
   rw [List.all_append, hN]
   simp [v8 h8]
 split
 ·rename_i h9
  exact stOk_mk rfl hA (by simp) (jump_to hins (.inl h9)) h60 hN
 split
 ·rename_i h10
  split
  ·exact stOk_mk rfl hA (by simp) (jump_to hins (.inr h10)) h60 hN
  ·exact goS_ok hk rfl hA h60 hN
 split
 ·exact stOk_mk rfl hA (by simp) hkB h60 hN
 split
 ·rename_i hv
  exact goS_ok hk (by simp) (allN_set hA hv) h60 hN
 ·exact stOk_mk rfl hA (by simp) hkB h60 hN
def newS : S4 := ⟨0, [0, 0, 0, 0], [], 0⟩
def rpStep (g : Nat → I5) (len : Nat) (x : E3) (S : S4) : Option S4 := if doB g len S.p S.rs S.os S.c x.k x.q x.v = true then some (doS g len S.p S.rs S.os S.c x.k x.q x.v) else none
def rp (g : Nat → I5) (len : Nat) (h : Nat → E3) : Nat → Option S4
 | 0 => some newS
 | k + 1 => (rp g len h k).bind (rpStep g len (h k))
theorem rp_none {g : Nat → I5} {len : Nat} {h : Nat → E3} {k : Nat} (hk : rp g len h k = none) : ∀ d, rp g len h (k + d) = none
 | 0 => hk
 | d + 1 => by
  have := rp_none hk d
  show (rp g len h (k + d)).bind _ = none
  rw [this]
  rfl
theorem rp_over {g : Nat → I5} {len : Nat} {h : Nat → E3} {k m : Nat} (hk : rp g len h k = none) (hm : k ≤ m) : rp g len h m = none := by
 have := rp_none hk (m - k)
 rwa [show k + (m - k) = m by omega] at this
theorem rp_yes {g : Nat → I5} {len : Nat} {h : Nat → E3} {k : Nat} {S : S4} (hk : rp g len h k = some S) (hd : doB g len S.p S.rs S.os S.c (h k).k (h k).q (h k).v = true) : rp g len h (k + 1) = some (doS g len S.p S.rs S.os S.c (h k).k (h k).q (h k).v) := by
 show (rp g len h k).bind _ = _
 rw [hk]
 show rpStep g len (h k) S = _
 unfold rpStep
 rw [if_pos hd]
theorem rp_no {g : Nat → I5} {len : Nat} {h : Nat → E3} {k : Nat} {S : S4} (hk : rp g len h k = some S) (hd : doB g len S.p S.rs S.os S.c (h k).k (h k).q (h k).v = false) : rp g len h (k + 1) = none := by
 show (rp g len h k).bind _ = _
 rw [hk]
 show rpStep g len (h k) S = _
 unfold rpStep
 rw [if_neg (by rw [hd]; decide)]
def resS (o : Option S4) : S4 := o.getD ⟨0, [], [], 0⟩
theorem prog_len {g : Nat → I5} {len : Nat} (hp : progOkB g len 4 = true) : 1 ≤ len ∧ len ≤ 30 := by
 simp only [progOkB, Bool.and_eq_true] at hp
 have := hp.2.1
 simp [inB] at this
 omega
theorem newS_ok {g : Nat → I5} {len : Nat} (hp : progOkB g len 4 = true) : OkS len newS := by
 have := prog_len hp
 exact stOk_mk rfl (by simp [newS, allN, numB, inB]) (by simp [newS]) (by simp [belB, newS]; omega) (by simp [newS]) rfl
theorem right_of {g : Nat → I5} {len : Nat} {S : S4} (hp : progOkB g len 4 = true) (hS : OkS len S) (hc : S.c = 0) : rightB g len S.p S.rs S.os S.c = true := by
 unfold OkS at hS
 rw [rightB, hp, hS, hc]
 rfl
theorem doB_code {g : Nat → I5} {len : Nat} {S : S4} {k q v : Int} (hc : S.c ≠ 0) : doB g len S.p S.rs S.os S.c k q v = false := by
 rcases Bool.eq_false_or_eq_true (doB g len S.p S.rs S.os S.c k q v) with h | h
 ·obtain ⟨-, -, h0⟩ := right_parts (doB_right h)
  exact absurd h0 hc
 ·exact h
theorem OkS.len {n : Nat} {S : S4} (h : OkS n S) : S.rs.length = 4 ∧ S.os.length ≤ 60 := by
 obtain ⟨⟨a, b, c, d, e, -⟩, -, h60, -⟩ := st_parts h
 exact ⟨by rw [e]; rfl, h60⟩
open Go.Sort
structure Rl (w wr : World) (R Bs : Nat) (p code : Int) (ra : Option Addr) (rc : Nat) (oa : Option Addr) (oc : Nat) (rs os : List Int) : Prop where
 tl : Tl wr (R + 1) wr.heap.size Bs p code ra rs.length rc oa os.length oc rs os
 fz : ∀ j, wr.frozen? ⟨Bs, j, none⟩ = false
 rb : BoxC wr R (.int .i64 0) (.slice none 0 0) (.slice none 0 0) (.int .i64 0)
 rf : ∀ j, wr.frozen? ⟨R, j, none⟩ = false
 be : Below w.heap.size w wr
 hR : R = w.heap.size
theorem Rl.below {w wr w' : World} {R Bs : Nat} {p code : Int} {ra : Option Addr} {rc : Nat} {oa : Option Addr} {oc : Nat} {rs os : List Int} (h : Rl w wr R Bs p code ra rc oa oc rs os) (hb : Below wr.heap.size wr w') : Rl w w' R Bs p code ra rc oa oc rs os := by
 have zB : Bs < wr.heap.size := h.tl.hi
 have zR : R < wr.heap.size := World.block_lt_of_cell? wr _ h.rb.1
 exact ⟨(h.tl.below hb).widen hb.size (Nat.le_refl _), fun j => (World.frozen?_of_block (hb.block Bs zB)).trans (h.fz j), h.rb.below hb, fun j => (World.frozen?_of_block (hb.block R zR)).trans (h.rf j), h.be.trans (hb.mono h.be.size), h.hR⟩
theorem Rl.next {w w9 : World} {R Bs : Nat} {p code : Int} {ra : Option Addr} {rc : Nat} {oa : Option Addr} {oc : Nat} {rs os : List Int} (h : Rl w w9 R Bs p code ra rc oa oc rs os) {B7 : Nat} {S : S4} {ra7 oa7 : Option Addr} {rc7 oc7 : Nat} (o9 : StOwn w9 B7 (stV S.p ra7 S.rs.length rc7 oa7 S.os.length oc7 S.c) S.p S.rs S.os S.c) (hB : Bs < B7) : Rl w ((((w9.setCell ⟨Bs, 0, none⟩ (.int .i64 S.p)).setCell ⟨Bs, 1, none⟩ (.slice ra7 S.rs.length rc7)).setCell ⟨Bs, 2, none⟩ (.slice oa7 S.os.length oc7)).setCell ⟨Bs, 3, none⟩ (.int .i64 S.c)) R Bs S.p S.c ra7 rc7 oa7 oc7 S.rs S.os := by
 have hlo := h.tl.lo
 have hhi := h.tl.hi
 have hR := h.hR
 have gz := grown4 w9 Bs (.int .i64 S.p) (.slice ra7 S.rs.length rc7) (.slice oa7 S.os.length oc7) (.int .i64 S.c)
 have zR : R < w9.heap.size := World.block_lt_of_cell? w9 _ h.rb.1
 have eR := gz.block R zR (by simp; omega)
 obtain ⟨r0, r1, r2, r3⟩ := h.rb
 have ht : Tl ((((w9.setCell ⟨Bs, 0, none⟩ (.int .i64 S.p)).setCell ⟨Bs, 1, none⟩ (.slice ra7 S.rs.length rc7)).setCell ⟨Bs, 2, none⟩ (.slice oa7 S.os.length oc7)).setCell ⟨Bs, 3, none⟩ (.int .i64 S.c)) (R + 1) w9.heap.size Bs S.p S.c ra7 S.rs.length rc7 oa7 S.os.length oc7 S.rs S.os := by
  refine ⟨hlo, hhi, by simp, h.tl.box.set4 _ _ _ _, o9.put4 hB (by omega), fun j hj => (o9.lt hj).2, fun hj => ?_⟩
  have := (o9.lt hj).1
  omega
 have hbe : Below w.heap.size w9 ((((w9.setCell ⟨Bs, 0, none⟩ (.int .i64 S.p)).setCell ⟨Bs, 1, none⟩ (.slice ra7 S.rs.length rc7)).setCell ⟨Bs, 2, none⟩ (.slice oa7 S.os.length oc7)).setCell ⟨Bs, 3, none⟩ (.int .i64 S.c)) := ⟨gz.os, gz.tape, gz.output, gz.size, fun k hk => gz.block k (Nat.lt_of_lt_of_le hk h.be.size) (by simp; omega)⟩
 have hfz : ∀ j, ((((w9.setCell ⟨Bs, 0, none⟩ (.int .i64 S.p)).setCell ⟨Bs, 1, none⟩ (.slice ra7 S.rs.length rc7)).setCell ⟨Bs, 2, none⟩ (.slice oa7 S.os.length oc7)).setCell ⟨Bs, 3, none⟩ (.int .i64 S.c)).frozen? ⟨Bs, j, none⟩ = false := fun j => by
  rw [World.frozen?_setCell, World.frozen?_setCell, World.frozen?_setCell, World.frozen?_setCell]
  exact h.fz j
 have hrf : ∀ j, ((((w9.setCell ⟨Bs, 0, none⟩ (.int .i64 S.p)).setCell ⟨Bs, 1, none⟩ (.slice ra7 S.rs.length rc7)).setCell ⟨Bs, 2, none⟩ (.slice oa7 S.os.length oc7)).setCell ⟨Bs, 3, none⟩ (.int .i64 S.c)).frozen? ⟨R, j, none⟩ = false := fun j => by
  rw [World.frozen?_setCell, World.frozen?_setCell, World.frozen?_setCell, World.frozen?_setCell]
  exact h.rf j
 have hgs := gz.size
 have hrb : BoxC ((((w9.setCell ⟨Bs, 0, none⟩ (.int .i64 S.p)).setCell ⟨Bs, 1, none⟩ (.slice ra7 S.rs.length rc7)).setCell ⟨Bs, 2, none⟩ (.slice oa7 S.os.length oc7)).setCell ⟨Bs, 3, none⟩ (.int .i64 S.c)) R (.int .i64 0) (.slice none 0 0) (.slice none 0 0) (.int .i64 0) := ⟨(World.cell?_of_block eR).trans r0, (World.cell?_of_block eR).trans r1, (World.cell?_of_block eR).trans r2, (World.cell?_of_block eR).trans r3⟩
 have hbe2 := h.be.trans hbe
 generalize (((w9.setCell ⟨Bs, 0, none⟩ (.int .i64 S.p)).setCell ⟨Bs, 1, none⟩ (.slice ra7 S.rs.length rc7)).setCell ⟨Bs, 2, none⟩ (.slice oa7 S.os.length oc7)).setCell ⟨Bs, 3, none⟩ (.int .i64 S.c) = wz at *
 exact ⟨ht.widen hgs (Nat.le_refl _), hfz, hrb, hrf, hbe2, hR⟩
theorem Rl.done {w wr : World} {R Bs : Nat} {p code : Int} {ra : Option Addr} {rc : Nat} {oa : Option Addr} {oc : Nat} {rs os : List Int} (h : Rl w wr R Bs p code ra rc oa oc rs os) (a b c d : Value) : Below w.heap.size w ((((wr.setCell ⟨R, 0, none⟩ a).setCell ⟨R, 1, none⟩ b).setCell ⟨R, 2, none⟩ c).setCell ⟨R, 3, none⟩ d) ∧ StOwn ((((wr.setCell ⟨R, 0, none⟩ a).setCell ⟨R, 1, none⟩ b).setCell ⟨R, 2, none⟩ c).setCell ⟨R, 3, none⟩ d) w.heap.size (stV p ra rs.length rc oa os.length oc code) p rs os code := by
 have hR := h.hR
 have gz := grown4 wr R a b c d
 exact ⟨h.be.trans ⟨gz.os, gz.tape, gz.output, gz.size, fun k hk => gz.block k (Nat.lt_of_lt_of_le hk h.be.size) (by simp; omega)⟩, h.tl.own.put4 (Nat.lt_succ_self _) (by omega)⟩
theorem StOwn.nil (w : World) (B : Nat) : StOwn w B (stV 0 none 0 0 none 0 0 0) 0 [] [] 0 := ⟨_, _, rfl, World.ownsRow_nil _ _ _ _, World.ownsRow_nil _ _ _ _, fun k e => by cases e⟩
theorem StOwn.dr {w : World} {B : Nat} {v : Value} {p code : Int} {rs os : List Int} (h : StOwn w B v p rs os code) : StOwn w.drew B v p rs os code := by
 obtain ⟨vr, vo, e, h1, h2, h3⟩ := h
 exact ⟨vr, vo, e, h1.drewN 1, h2.drewN 1, h3⟩
theorem l3Replay_l (gb n gc : Nat) (ea : Option Addr) (m ec : Nat) (g : Nat → I5) (eh : Nat → E3) (w : World) (hg : gb < w.heap.size) (hI : InsAt w gb 0 n g) (hE : EvL w ea m eh) (hm : m ≤ 1048576) (hp : progOkB g n 4 = true) :
  Calls Tryz.prog 153 #[.slice (some ⟨gb, 0, none⟩) n gc, .slice ea m ec] w (DoneR w (resS (rp g n eh m)) (rp g n eh m).isSome) := by
 have HI : Hid (InsAt w gb 0 n g) := hI
 have HE : Hid (EvL w ea m eh) := hE
 have HP : Hid (progOkB g n 4 = true) := hp
 have hm' : (m : Int) ≤ 1048576 := by omega
 clear hI hE hp
 go_enter Tryz.func153, Tryz.ntmps153
 go_wp2_with fail
 refine (specStateNew_any _).mono ?_
 rintro e w2 ⟨v2, rfl, o2, b2⟩
 obtain ⟨ra2, rc2, oa2, oc2, rfl, -, -⟩ := o2.read
 have bA := below_alloc w (zQ0)
 have bB := below_alloc w2 (oQ1 0 ra2 4 rc2 oa2 0 oc2 0)
 have D2 : Hid (Rl w (w2.alloc (oQ1 0 ra2 4 rc2 oa2 0 oc2 0)) w.heap.size w2.heap.size 0 0 ra2 rc2 oa2 oc2 [0, 0, 0, 0] []) := by
  have bC : Below (w.heap.size + 1) (w.alloc (zQ0)) (w2.alloc (oQ1 0 ra2 4 rc2 oa2 0 oc2 0)) := by
   have h := b2.trans (bB.mono b2.size)
   rw [World.size_alloc] at h
   exact h
  have z2 : w.heap.size + 1 ≤ w2.heap.size := by have := b2.size; simp at this; exact this
  have eR := bC.block w.heap.size (by omega)
  have o2' : StOwn w2 (w.heap.size + 1) (stV 0 ra2 4 rc2 oa2 0 oc2 0) 0 [0, 0, 0, 0] [] 0 := by
   have h := o2
   rw [World.size_alloc] at h
   exact h
  obtain ⟨r0, r1, r2, r3⟩ := BoxC.new w (.int .i64 0) (.slice none 0 0) (.slice none 0 0) (.int .i64 0) 123
  refine ⟨(Tl.of_alloc o2' z2 _).widen (by simp) (Nat.le_refl _), fun j => new_frozen _ _ _ j rfl, ⟨(World.cell?_of_block eR).trans r0, (World.cell?_of_block eR).trans r1, (World.cell?_of_block eR).trans r2, (World.cell?_of_block eR).trans r3⟩, fun j => (World.frozen?_of_block eR).trans (new_frozen _ _ _ j rfl), bA.trans (bC.mono (by omega)), rfl⟩
 clear o2 b2 bA bB
 go_wp2_with fail
 generalize w2.alloc (oQ1 0 ra2 4 rc2 oa2 0 oc2 0) = w3 at *
 generalize w2.heap.size = Bs at *
 go_loopw [7] (fun i wr => ∃ k : Nat, k ≤ m ∧ i = .int .i64 k ∧ Hid (∃ S ra rc oa oc, rp g n eh k = some S ∧ OkS n S ∧ Rl w wr w.heap.size Bs S.p S.c ra rc oa oc S.rs S.os)) (fun i _ => m - (intOf i).toNat)
 case atStart => exact ⟨0, Nat.zero_le _, rfl, newS, _, _, _, _, rfl, newS_ok HP.out, D2.out⟩
 case round =>
  clear D2
  obtain ⟨k, hk, rfl, HD⟩ := hrel
  obtain ⟨S0, ra, rc, oa, oc, hrp, hok, hD⟩ := HD.out
  obtain ⟨p, rs, os, code⟩ := S0
  dsimp only at hD
  have DRl : Hid (Rl w wr w.heap.size Bs p code ra rc oa oc rs os) := hD
  have HRP : Hid (rp g n eh k = some ⟨p, rs, os, code⟩ ∧ OkS n ⟨p, rs, os, code⟩) := ⟨hrp, hok⟩
  clear HD hD hrp hok
  obtain ⟨c0, c1, c2, c3⟩ := DRl.out.tl.box
  obtain ⟨r0, r1, r2, r3⟩ := DRl.out.rb
  have rf := DRl.out.rf
  have cf := DRl.out.fz
  have dR : Bs ≠ w.heap.size := by have := DRl.out.tl.lo; omega
  have dR' : w.heap.size ≠ Bs := fun e => dR e.symm
  have zB : Bs < wr.heap.size := DRl.out.tl.hi
  have zR : w.heap.size < wr.heap.size := by have := DRl.out.tl.lo; omega
  by_cases hlt : k < m
  ·have hlt' : (k : Int) < (m : Int) := by omega
   rcases Bool.eq_false_or_eq_true (code != 0) with tc | tc
   ·have HZ : Hid (rp g n eh m = none) := rp_over (rp_no HRP.out.1 (doB_code (S := ⟨p, rs, os, code⟩) (by simpa using tc))) (by omega)
    go_wp2_with fail
    refine bodyPost_ret (v := .tuple #[stV 0 none 0 0 none 0 0 0, .bool false]) (by simp [results, Tryz.results153, go_sem, r0, r1, r2, r3]) rfl ?_
    rw [HZ.out]
    exact ⟨_, rfl, StOwn.nil _ _, (DRl.out.done _ _ _ _).1⟩
   ·have hc0 : code = 0 := by simpa using tc
    subst hc0
    have hright := right_of (S := ⟨p, rs, os, 0⟩) HP.out HRP.out.2 rfl
    dsimp only at hright
    obtain ⟨-, ⟨pk, hpk, hpn⟩, -, -⟩ := st_parts (right_parts hright).2.1
    subst hpk
    have HRT : Hid (rightB g n (pk : Int) rs os 0 = true) := hright
    have hSok : doB g n pk rs os 0 (eh k).k (eh k).q (eh k).v = true → OkS n (doS g n pk rs os 0 (eh k).k (eh k).q (eh k).v) := doS_ok
    have hyes := rp_yes (S := ⟨pk, rs, os, 0⟩) HRP.out.1
    have hnot := rp_no (S := ⟨pk, rs, os, 0⟩) HRP.out.1
    dsimp only at hyes hnot
    generalize hS : doS g n pk rs os 0 (eh k).k (eh k).q (eh k).v = S at hSok hyes
    generalize hT : doB g n pk rs os 0 (eh k).k (eh k).q (eh k).v = T at hSok hyes hnot
    have HN : Hid (doS g n pk rs os 0 (eh k).k (eh k).q (eh k).v = S ∧ doB g n pk rs os 0 (eh k).k (eh k).q (eh k).v = T) := ⟨hS, hT⟩
    have HY : Hid ((T = true → rp g n eh (k + 1) = some S ∧ OkS n S) ∧ (T = false → rp g n eh (k + 1) = none)) := ⟨fun h => ⟨hyes h, hSok h⟩, hnot⟩
    clear hS hT hSok hyes hnot hright
    obtain ⟨eb, eo, rfl, ze, k0, k1, k2⟩ := (HE.out.below DRl.out.be).at hlt
    have HEA : Hid (EvAt wr eb eo m eh ∧ eb < wr.heap.size) := (HE.out.below DRl.out.be).one hlt
    have d1 : wr.heap.size ≠ Bs := by omega
    have d2 : wr.heap.size ≠ eb := by omega
    go_wp2_with fail
    go_cut [8, 9] from 21 to 30 (fun s t wx => ∃ M : Nat, s = .pointer (some ⟨M, 0, none⟩) ∧ t = .bool T ∧ Hid (Below wr.heap.size wr wx ∧ Told wx wr.heap.size M S))
    case first =>
     go_region_held3 (fun w' => w'.cell? ⟨Bs, 0, none⟩ = some (.int .i64 pk) ∧ w'.cell? ⟨Bs, 1, none⟩ = some (.slice ra rs.length rc) ∧ w'.cell? ⟨Bs, 2, none⟩ = some (.slice oa os.length oc) ∧ w'.cell? ⟨Bs, 3, none⟩ = some (.int .i64 0) ∧ w'.cell? ⟨eb, eo + k * 3, none⟩ = some (.int .i64 (eh k).k) ∧ w'.cell? ⟨eb, eo + k * 3 + 1, none⟩ = some (.int .i64 (eh k).q) ∧ w'.cell? ⟨eb, eo + k * 3 + 2, none⟩ = some (.int .i64 (eh k).v)) (go_keep)
      (first
       | (go_at_call 144; refine (l2Do_any gb 0 n gc pk g ra oa rc oc rs os (eh k).k (eh k).q (eh k).v _ (Nat.lt_of_lt_of_le hg (DRl.out.below (by go_grown)).be.size) (HI.out.below (DRl.out.below (by go_grown)).be hg) (DRl.out.below (by go_grown)).tl.sl.1 (DRl.out.below (by go_grown)).tl.sl.2 HRT.out).mono ?_; rintro e w5 hd; rw [HN.out.1, HN.out.2] at hd; obtain ⟨v5, rfl, o5, b5⟩ := hd; obtain ⟨ra5, rc5, oa5, oc5, rfl, -, -⟩ := o5.read; have q5 : Below wr.heap.size wr w5 := below_up (by go_grown) b5 (by simp); obtain ⟨y0, y1, y2, y3⟩ := (DRl.out.below q5).tl.box; obtain ⟨y4, y5, y6⟩ := HEA.out.1.below q5 HEA.out.2 k hlt; (try simp only [World.size_alloc, World.size_drew] at o5); have O5 : Hid (StOwn w5 _ (stV S.p ra5 S.rs.length rc5 oa5 S.os.length oc5 S.c) S.p S.rs S.os S.c) := o5; obtain ⟨hc5, hf5⟩ := bcell b5; have z5 := b5.size; (try simp only [World.size_alloc, World.size_drew, Nat.add_one_le_iff] at z5); have j5 : wr.heap.size ≤ w5.heap.size := q5.size; have Q5 : Hid (Below wr.heap.size wr w5) := q5; clear o5 b5 q5))
     all_goals
      go_wp2_with fail
      go_meet
      case rel =>
       first
       | (refine ⟨w5.heap.size, by with_reducible rfl, rfl, ?_⟩
          exact ⟨Q5.out.trans ((below_alloc _ _).mono j5), Told.of_alloc O5.out (by omega) (by omega) _⟩)
       | (refine ⟨wr.heap.size, by with_reducible rfl, rfl, ?_⟩
          exact ⟨(((Q5.out.setCell (Nat.le_refl _) _).setCell (Nat.le_refl _) _).setCell (Nat.le_refl _) _).setCell (Nat.le_refl _) _, Told.of_put (z0 := .int .i64 0) (z1 := .slice none 0 0) (z2 := .slice none 0 0) (z3 := .int .i64 0) O5.out (by omega) (by omega) (by omega) ⟨by rw [hc5 _ _ (by simp)]; simp, by rw [hc5 _ _ (by simp)]; simp, by rw [hc5 _ _ (by simp)]; simp, by rw [hc5 _ _ (by simp)]; simp⟩⟩)
    case rest =>
     obtain ⟨M, rfl, rfl, HM⟩ := hcut
     have bG := HM.out.1
     obtain ⟨ra5, rc5, oa5, oc5, TG⟩ := HM.out.2.tl
     have D6 : Hid (Rl w wc w.heap.size Bs pk 0 ra rc oa oc rs os) := DRl.out.below bG
     have O6 : Hid (StOwn wc wr.heap.size (stV S.p ra5 S.rs.length rc5 oa5 S.os.length oc5 S.c) S.p S.rs S.os S.c) := TG.own
     have zM := TG.lo
     clear c0 c1 c2 c3 r0 r1 r2 r3 rf cf k0 k1 k2 HM bG
     obtain ⟨c0, c1, c2, c3⟩ := D6.out.tl.box
     obtain ⟨r0, r1, r2, r3⟩ := D6.out.rb
     obtain ⟨n0, n1, n2, n3⟩ := TG.box
     have rf := D6.out.rf
     have cf := D6.out.fz
     have dN : M ≠ Bs := by omega
     have dN' : Bs ≠ M := by omega
     have dM : M ≠ w.heap.size := by omega
     clear TG
     cases T
     case false =>
      have HZ : Hid (rp g n eh m = none) := rp_over (HY.out.2 rfl) (by omega)
      go_wp2_with fail
      refine bodyPost_ret (v := .tuple #[stV 0 none 0 0 none 0 0 0, .bool false]) (by simp [results, Tryz.results153, go_sem, r0, r1, r2, r3]) rfl ?_
      rw [HZ.out]
      exact ⟨_, rfl, StOwn.nil _ _, (D6.out.done _ _ _ _).1⟩
     case true =>
      have HW : Hid (rp g n eh (k + 1) = some S ∧ OkS n S) := HY.out.1 rfl
      go_wp2
      go_roundw
      case rel => exact ⟨k + 1, by omega, by go_num, S, _, _, _, _, HW.out.1, HW.out.2, D6.out.next O6.out zB⟩
      case measure => simp [intOf]; omega
  ·have hkm : k = m := by omega
   have HZ : Hid (rp g n eh m = some ⟨p, rs, os, code⟩) := by
    have := HRP.out.1
    rw [hkm] at this
    exact this
   go_wp2_with fail
   refine bodyPost_ret (v := .tuple #[stV p ra rs.length rc oa os.length oc code, .bool true]) (by simp [results, Tryz.results153, go_sem, r0, r1, r2, r3]) rfl ?_
   rw [HZ.out]
   exact ⟨_, rfl, (DRl.out.done _ _ _ _).2, (DRl.out.done _ _ _ _).1⟩
def repO (g : Nat → I5) (n : Nat) (eh : Nat → E3) (m : Nat) : Option S4 := if progOkB g n 4 = true ∧ m ≤ 200 then rp g n eh m else none
theorem specReplay_l (gb n gc : Nat) (ea : Option Addr) (m ec : Nat) (g : Nat → I5) (eh : Nat → E3) (w : World) (hn : n ≤ maxLen) (hg : gb < w.heap.size) (hI : InsAt w gb 0 n g) (hE : EvL w ea m eh) (hm : m ≤ 1048576) :
  Calls Tryz.prog 76 #[.slice (some ⟨gb, 0, none⟩) n gc, .slice ea m ec] w (DoneR w (resS (repO g n eh m)) (repO g n eh m).isSome) := by
 have HI : Hid (InsAt w gb 0 n g) := hI
 have HE : Hid (EvL w ea m eh) := hE
 have HL : Hid (n ≤ maxLen) := hn
 have hm' : (m : Int) ≤ 1048576 := by omega
 clear hI hE hn
 have bA := below_alloc w (zQ0)
 have BA : Hid (Below w.heap.size w (w.alloc (zQ0))) := bA
 have NB : Hid (BoxC (w.alloc (zQ0)) w.heap.size (.int .i64 0) (.slice none 0 0) (.slice none 0 0) (.int .i64 0) ∧ ∀ j, (w.alloc (zQ0)).frozen? ⟨w.heap.size, j, none⟩ = false) := ⟨BoxC.new w _ _ _ _ _, fun j => new_frozen _ _ _ j rfl⟩
 clear bA
 go_enter Tryz.func76, Tryz.ntmps76
 go_wp2_with fail
 have hz : (w.alloc (zQ0)).heap.size = w.heap.size + 1 := by simp
 generalize w.alloc (zQ0) = wa at *
 refine (specProgOk_any gb 0 n gc g 4 wa HL.out (Nat.lt_of_lt_of_le hg BA.out.size) (HI.out.below BA.out hg)).mono ?_
 rintro e w1 ⟨rfl, b1⟩
 have zR : w.heap.size < w1.heap.size := by have := b1.size; omega
 have N1 : Hid (BoxC w1 w.heap.size (.int .i64 0) (.slice none 0 0) (.slice none 0 0) (.int .i64 0) ∧ ∀ j, w1.frozen? ⟨w.heap.size, j, none⟩ = false) := ⟨NB.out.1.below b1, fun j => (World.frozen?_of_block (b1.block w.heap.size (by omega))).trans (NB.out.2 j)⟩
 have B1 : Hid (Below w.heap.size w w1) := BA.out.trans (b1.mono BA.out.size)
 clear b1 NB BA hz
 obtain ⟨⟨r0, r1, r2, r3⟩, rf⟩ := N1.out
 have hput : ∀ (a b c d : Value), Below w.heap.size w ((((w1.setCell ⟨w.heap.size, 0, none⟩ a).setCell ⟨w.heap.size, 1, none⟩ b).setCell ⟨w.heap.size, 2, none⟩ c).setCell ⟨w.heap.size, 3, none⟩ d) := fun a b c d => (((B1.out.setCell (Nat.le_refl _) _).setCell (Nat.le_refl _) _).setCell (Nat.le_refl _) _).setCell (Nat.le_refl _) _
 have HPut : Hid (∀ (a b c d : Value), Below w.heap.size w ((((w1.setCell ⟨w.heap.size, 0, none⟩ a).setCell ⟨w.heap.size, 1, none⟩ b).setCell ⟨w.heap.size, 2, none⟩ c).setCell ⟨w.heap.size, 3, none⟩ d)) := hput
 clear hput
 rcases Bool.eq_false_or_eq_true (progOkB g n 4) with tp | tp
 ·by_cases h2 : m ≤ 200
  ·have h2' : ¬ (200 : Int) < (m : Int) := by omega
   have HO : Hid (repO g n eh m = rp g n eh m) := by
    show repO g n eh m = rp g n eh m
    unfold repO
    rw [if_pos ⟨tp, h2⟩]
   have HP : Hid (progOkB g n 4 = true) := tp
   go_wp2_with fail
   refine (l3Replay_l gb n gc ea m ec g eh w1 (Nat.lt_of_lt_of_le hg B1.out.size) (HI.out.below B1.out hg) (HE.out.below B1.out) hm HP.out).mono ?_
   rintro e w2 hd
   rw [← HO.out] at hd
   generalize repO g n eh m = O at *
   obtain ⟨v2, rfl, o2, b2⟩ := hd
   obtain ⟨ra2, rc2, oa2, oc2, rfl, -, -⟩ := o2.read
   have eR := b2.block w.heap.size zR
   have q0 := (World.cell?_of_block eR).trans r0
   have q1 := (World.cell?_of_block eR).trans r1
   have q2 := (World.cell?_of_block eR).trans r2
   have q3 := (World.cell?_of_block eR).trans r3
   have qf : ∀ j, w2.frozen? ⟨w.heap.size, j, none⟩ = false := fun j => (World.frozen?_of_block eR).trans (rf j)
   have B2 : Hid (Below w.heap.size w w2) := B1.out.trans (b2.mono B1.out.size)
   have O2 : Hid (StOwn w2 w1.heap.size (stV (resS O).p ra2 (resS O).rs.length rc2 oa2 (resS O).os.length oc2 (resS O).c) (resS O).p (resS O).rs (resS O).os (resS O).c) := o2
   clear o2 b2 eR r0 r1 r2 r3 rf
   go_wp2
   refine bodyPost_ret (v := .tuple #[stV (resS O).p ra2 (resS O).rs.length rc2 oa2 (resS O).os.length oc2 (resS O).c, .bool O.isSome]) (by simp [results, Tryz.results76, go_sem, q0, q1, q2, q3]) rfl ⟨_, rfl, ?_, ?_⟩
   ·exact O2.out.put4 zR (by omega)
   ·exact (((B2.out.setCell (Nat.le_refl _) _).setCell (Nat.le_refl _) _).setCell (Nat.le_refl _) _).setCell (Nat.le_refl _) _
  ·have h2' : (200 : Int) < (m : Int) := by omega
   have HO : Hid (repO g n eh m = none) := by
    show repO g n eh m = none
    unfold repO
    rw [if_neg (by omega)]
   go_wp2
   refine bodyPost_ret (v := .tuple #[stV 0 none 0 0 none 0 0 0, .bool false]) (by simp [results, Tryz.results76, go_sem, r0, r1, r2, r3]) rfl ?_
   rw [HO.out]
   exact ⟨_, rfl, StOwn.nil _ _, HPut.out _ _ _ _⟩
 ·have HO : Hid (repO g n eh m = none) := by
   show repO g n eh m = none
   unfold repO
   rw [if_neg (by rw [tp]; simp)]
  go_wp2
  refine bodyPost_ret (v := .tuple #[stV 0 none 0 0 none 0 0 0, .bool false]) (by simp [results, Tryz.results76, go_sem, r0, r1, r2, r3]) rfl ?_
  rw [HO.out]
  exact ⟨_, rfl, StOwn.nil _ _, HPut.out _ _ _ _⟩
theorem repO_len (g : Nat → I5) (n : Nat) (eh : Nat → E3) (m : Nat) : (resS (repO g n eh m)).rs.length ≤ 1048576 ∧ (resS (repO g n eh m)).os.length ≤ 1048576 := by
 unfold repO
 split
 ·rename_i h
  have hk : ∀ k S, rp g n eh k = some S → OkS n S := by
   intro k
   induction k with
   | zero =>
    intro S hS
    simp only [rp, Option.some.injEq] at hS
    rw [← hS]
    exact newS_ok h.1
   | succ k ih =>
    intro S hS
    simp only [rp] at hS
    cases hr : rp g n eh k with
    | none => rw [hr] at hS; cases hS
    | some S0 =>
     rw [hr] at hS
     simp only [Option.bind_some, rpStep] at hS
     split at hS
     ·rename_i hd
      simp only [Option.some.injEq] at hS
      rw [← hS]
      exact doS_ok hd
     ·cases hS
  cases hr : rp g n eh m with
  | none => simp [resS]
  | some S =>
   have := OkS.len (hk m S hr)
   simp only [resS, Option.getD_some]
   omega
 ·simp [resS]
theorem implStateNew_any (w : World) :
  Calls Tryz.prog 240 #[] w fun e w' => ∃ v, e = .returned v ∧ StOwn w' w.heap.size v 0 [0, 0, 0, 0] [] 0 ∧ Below w.heap.size w w' := by
 have hmk : ∀ w : World, (Instr.makeSlice 35 (.int .i64 4) (.int .i64 4)).run Tryz.prog w = .ok (.slice (some ⟨w.heap.size, 0, none⟩) 4 4) (w.alloc (.cells (madeCells #[.int .i64 0] 4) 3)) := fun w => run_make_int 4 (by omega) w
 have HM : Hid (∀ w : World, OwnI (w.alloc (.cells (madeCells #[.int .i64 0] 4) 3)) w.heap.size (.slice (some ⟨w.heap.size, 0, none⟩) 4 4) [0, 0, 0, 0]) := fun w => made_own w 4 (by omega)
 go_enter Tryz.func240, Tryz.ntmps240
 go_wp2
 have hB : w.heap.size ≤ w.heap.size + 1 := by omega
 have hM := HM.out (w.alloc (oQ1 0 (some ⟨w.heap.size + 1, 0, none⟩) 4 4 none 0 0 0))
 rw [World.size_alloc] at hM
 refine bodyPost_ret (v := stV 0 (some ⟨w.heap.size + 1, 0, none⟩) 4 4 none 0 0 0) (by simp [results, Tryz.results240, go_sem]) rfl ⟨_, rfl, ⟨_, _, rfl, hM.mono hB, World.ownsRow_nil _ _ _ _, fun k _ => by simp [Value.ownBlock]⟩, by go_grown⟩
structure Rn (w wr : World) (A B C gb n gc k : Nat) (p code : Int) (ra : Option Addr) (rc : Nat) (oa : Option Addr) (oc : Nat) (rs os : List Int) : Prop where
 la : wr.cell? ⟨A, 0, none⟩ = some (.slice (some ⟨gb, 0, none⟩) n gc)
 tl : Tl wr w.heap.size wr.heap.size B p code ra rs.length rc oa os.length oc rs os
 fb : ∀ j, wr.frozen? ⟨B, j, none⟩ = false
 ck : wr.cell? ⟨C, 0, none⟩ = some (.int .i64 k)
 fc : wr.frozen? ⟨C, 0, none⟩ = false
 ne : A ≠ B ∧ C ≠ B ∧ A ≠ C ∧ w.heap.size ≤ A ∧ w.heap.size ≤ C
 nh : ¬ hasBlock (stV p ra rs.length rc oa os.length oc code) A ∧ ¬ hasBlock (stV p ra rs.length rc oa os.length oc code) C
 be : Below w.heap.size w wr
theorem runOf_any (gb n gc : Nat) (g : Nat → I5) (w : World) (hn : n ≤ maxLen) (hg : gb < w.heap.size) (hI : InsAt w gb 0 n g) (hp : progOkB g n 4 = true) :
  Calls Tryz.prog 239 #[.slice (some ⟨gb, 0, none⟩) n gc] w fun e w' => ∃ A B C ra rc oa oc, e = .returned (.tuple #[.func (.func 256) #[] #[.pointer (some ⟨A, 0, none⟩), .pointer (some ⟨B, 0, none⟩), .pointer (some ⟨C, 0, none⟩)], .nilIface]) ∧ Rn w w' A B C gb n gc 0 0 0 ra rc oa oc [0, 0, 0, 0] [] := by
 have HI : Hid (InsAt w gb 0 n g) := hI
 have HL : Hid (n ≤ maxLen) := hn
 have HP : Hid (progOkB g n 4 = true) := hp
 clear hI hn
 go_enter Tryz.func239, Tryz.ntmps239
 go_wp2_with fail
 refine (implProgOk_any gb 0 n gc g 4 _ HL.out (by simp; omega) (HI.out.below (by go_grown) hg)).mono ?_
 rintro e w1 ⟨rfl, b1⟩
 have B1 : Hid (Below w.heap.size w w1) := below_up (by go_grown) b1 (by simp)
 have z1 : w.heap.size < w1.heap.size := by have := b1.size; simp at this; omega
 have l1 : w1.cell? ⟨w.heap.size, 0, none⟩ = some (.slice (some ⟨gb, 0, none⟩) n gc) := by rw [(bcell b1).1 _ _ (by simp)]; simp
 clear b1
 go_wp2_with fail
 refine (implStateNew_any _).mono ?_
 rintro e w2 ⟨v2, rfl, o2, b2⟩
 obtain ⟨ra2, rc2, oa2, oc2, rfl, -, -⟩ := o2.read
 have z2 := b2.size
 have bz : Below w2.heap.size w2 ((w2.alloc (oQ1 0 ra2 4 rc2 oa2 0 oc2 0)).alloc (.cells #[.int .i64 0] 3)) := by go_grown
 have bq := below_alloc (w2.alloc (oQ1 0 ra2 4 rc2 oa2 0 oc2 0)) (.cells #[.int .i64 0] 3)
 have b12 := b2.trans (bz.mono b2.size)
 have HR : Hid (Rn w ((w2.alloc (oQ1 0 ra2 4 rc2 oa2 0 oc2 0)).alloc (.cells #[.int .i64 0] 3)) w.heap.size w2.heap.size (w2.heap.size + 1) gb n gc 0 0 0 ra2 rc2 oa2 oc2 [0, 0, 0, 0] []) := by
  have o2' : StOwn w2 w.heap.size (stV 0 ra2 4 rc2 oa2 0 oc2 0) 0 [0, 0, 0, 0] [] 0 := o2.mono (by omega)
  refine ⟨(World.cell?_of_block (b12.block w.heap.size z1)).trans l1, ((Tl.of_alloc o2' (by omega) _).below bq).widen (by simp) (Nat.le_refl _), fun j => ?_, ?_, ?_, ⟨by omega, by omega, by omega, by omega, by omega⟩, ⟨fun h => ?_, fun h => ?_⟩, B1.out.trans (b12.mono B1.out.size)⟩
  ·rw [World.frozen?_of_block (bq.block w2.heap.size (by simp))]
   exact new_frozen _ _ _ j rfl
  ·have := new_cell (w2.alloc (oQ1 0 ra2 4 rc2 oa2 0 oc2 0)) #[.int .i64 0] 3 0 rfl
   rw [World.size_alloc] at this
   exact this
  ·have := new_frozen (w2.alloc (oQ1 0 ra2 4 rc2 oa2 0 oc2 0)) #[.int .i64 0] 3 0 rfl
   rw [World.size_alloc] at this
   exact this
  ·have := (o2.lt h).1
   omega
  ·have := (o2.lt h).2
   omega
 clear o2 b2 bz bq b12 l1
 go_wp2
 exact bodyPost_ret (v := .tuple #[.func (.func 256) #[] #[.pointer (some ⟨w.heap.size, 0, none⟩), .pointer (some ⟨w2.heap.size, 0, none⟩), .pointer (some ⟨w2.heap.size + 1, 0, none⟩)], .nilIface]) (by simp [results, Tryz.results239, go_sem]) rfl ⟨_, _, _, _, _, _, _, rfl, HR.out⟩
theorem StOwn.set1 {w : World} {B N : Nat} {v : Value} {p code : Int} {rs os : List Int} (h : StOwn w B v p rs os code) (hN : N < B) (j : Nat) (u : Value) : StOwn (w.setCell ⟨N, j, none⟩ u) B v p rs os code := by
 obtain ⟨vr, vo, e, o1, o2, ha⟩ := h
 exact ⟨vr, vo, e, o1.setBelow hN _, o2.setBelow hN _, ha⟩
theorem Rn.below {w wr w' : World} {A B C gb n gc k : Nat} {p code : Int} {ra : Option Addr} {rc : Nat} {oa : Option Addr} {oc : Nat} {rs os : List Int} (h : Rn w wr A B C gb n gc k p code ra rc oa oc rs os) (hb : Below wr.heap.size wr w') : Rn w w' A B C gb n gc k p code ra rc oa oc rs os :=
 ⟨(World.cell?_of_block (hb.block A (World.block_lt_of_cell? wr _ h.la))).trans h.la, (h.tl.below hb).widen hb.size (Nat.le_refl _), fun j => (World.frozen?_of_block (hb.block B h.tl.hi)).trans (h.fb j), (World.cell?_of_block (hb.block C (World.block_lt_of_cell? wr _ h.ck))).trans h.ck, (World.frozen?_of_block (hb.block C (World.block_lt_of_cell? wr _ h.ck))).trans h.fc, h.ne, h.nh, h.be.trans (hb.mono h.be.size)⟩
theorem Rn.next {w w4 : World} {A B C gb n gc k : Nat} {p code : Int} {ra : Option Addr} {rc : Nat} {oa : Option Addr} {oc : Nat} {rs os : List Int} (h : Rn w w4 A B C gb n gc k p code ra rc oa oc rs os) {B7 R1 : Nat} {S : S4} {ra7 oa7 : Option Addr} {rc7 oc7 : Nat} (o : StOwn w4 B7 (stV S.p ra7 S.rs.length rc7 oa7 S.os.length oc7 S.c) S.p S.rs S.os S.c) (hA : A < B7) (hB : B < B7) (hC : C < B7) (hR : R1 < B7) (n1 : R1 ≠ A) (n2 : R1 ≠ B) (n3 : R1 ≠ C) (n4 : w.heap.size ≤ R1) (z7 : w.heap.size ≤ B7) :
  Rn w (((((((((w4.setCell ⟨B, 0, none⟩ (.int .i64 S.p)).setCell ⟨B, 1, none⟩ (.slice ra7 S.rs.length rc7)).setCell ⟨B, 2, none⟩ (.slice oa7 S.os.length oc7)).setCell ⟨B, 3, none⟩ (.int .i64 S.c)).setCell ⟨C, 0, none⟩ (.int .i64 ((k + 1 : Nat) : Int))).setCell ⟨R1, 0, none⟩ (.int .i64 S.p)).setCell ⟨R1, 1, none⟩ (.slice ra7 S.rs.length rc7)).setCell ⟨R1, 2, none⟩ (.slice oa7 S.os.length oc7)).setCell ⟨R1, 3, none⟩ (.int .i64 S.c)) A B C gb n gc (k + 1) S.p S.c ra7 rc7 oa7 oc7 S.rs S.os := by
 obtain ⟨e1, e2, e3, e4, e5⟩ := h.ne
 have zB := h.tl.hi
 have lB := h.tl.lo
 have o7 : StOwn (((((((((w4.setCell ⟨B, 0, none⟩ (.int .i64 S.p)).setCell ⟨B, 1, none⟩ (.slice ra7 S.rs.length rc7)).setCell ⟨B, 2, none⟩ (.slice oa7 S.os.length oc7)).setCell ⟨B, 3, none⟩ (.int .i64 S.c)).setCell ⟨C, 0, none⟩ (.int .i64 ((k + 1 : Nat) : Int))).setCell ⟨R1, 0, none⟩ (.int .i64 S.p)).setCell ⟨R1, 1, none⟩ (.slice ra7 S.rs.length rc7)).setCell ⟨R1, 2, none⟩ (.slice oa7 S.os.length oc7)).setCell ⟨R1, 3, none⟩ (.int .i64 S.c)) B7 (stV S.p ra7 S.rs.length rc7 oa7 S.os.length oc7 S.c) S.p S.rs S.os S.c := ((((((((o.set1 hB _ _).set1 hB _ _).set1 hB _ _).set1 hB _ _).set1 hC _ _).set1 hR _ _).set1 hR _ _).set1 hR _ _).set1 hR _ _
 obtain ⟨b0, b1, b2, b3⟩ := h.tl.box
 have la := h.la
 have ck := h.ck
 have dAB : (⟨B, 0, none⟩ : Addr).block ≠ (⟨A, 0, none⟩ : Addr).block := fun e => e1 e.symm
 refine ⟨?_, ⟨lB, by simp; exact zB, Nat.le_refl _, ⟨?_, ?_, ?_, ?_⟩, o7.mono z7, fun j hj => (o7.lt hj).2, fun hj => ?_⟩, fun j => ?_, ?_, ?_, ⟨e1, e2, e3, e4, e5⟩, ⟨fun hj => ?_, fun hj => ?_⟩, ?_⟩
 ·go_cell
 ·go_cell
 ·go_cell
 ·go_cell
 ·go_cell
 ·have := (o.lt hj).1
  omega
 ·simp only [World.frozen?_setCell]
  exact h.fb j
 ·go_cell
 ·simp only [World.frozen?_setCell]
  exact h.fc
 ·have := (o.lt hj).1
  omega
 ·have := (o.lt hj).1
  omega
 ·exact ((((((((h.be.setCell lB _).setCell lB _).setCell lB _).setCell lB _).setCell e5 _).setCell n4 _).setCell n4 _).setCell n4 _).setCell n4 _
end Go.Proofs.YtfdanemmefckpaaGreatDoor
