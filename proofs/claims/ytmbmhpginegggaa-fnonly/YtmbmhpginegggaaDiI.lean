/- The program's Do: for every program, state and event in memory. -/
import Derived.Test.YtmbmhpginegggaaDiH
namespace Go.Proofs.Ytmbmhpginegggaa
open Go.RowKit

theorem run_enter {f : FuncId} {fn : Func} {c : Code} (hf : Try.prog.funcs[f]? = some fn) (hname : (fn.name == "runtime.NumGoroutine") = false) (hb : fn.body = some c) (args : Array Value) (w : World) :
    (callFunc f args).run Try.prog w = .ok (.enter f args) w := by
  have h1 : fn.name ≠ "runtime.NumGoroutine" := by simpa using hname
  simp [callFunc, hf, h1, hb]

theorem stepR_below {w w' : World} {B : Nat} {o1 : Option Addr} {c1 : Nat} {os : List Int} {p' b1 b2 b3 b4 code' : Int} (hO : OwnI w B (.slice o1 os.length c1) os) (hb : Below w.heap.size w w') :
    StepR w B (.slice o1 os.length c1) os p' b1 b2 b3 b4 os code' (.returned (dV p' b1 b2 b3 b4 o1 os.length c1 code')) w' :=
  ⟨o1, c1, rfl, hO.below hb, hO.below hb, grown_any (grown_of_below hb) _, fun _ h => .inl h⟩

theorem settled_set {len k : Nat} {a1 a2 a3 a4 : Int} {os : List Int} {jr : Nat} {v : Int} (hn : numB a1 = true ∧ numB a2 = true ∧ numB a3 = true ∧ numB a4 = true) (h60 : os.length ≤ 60) (hj : jr < 4) :
    settledS len k a1 a2 a3 a4 os (k + 1) (set4 a1 a2 a3 a4 jr v).1 (set4 a1 a2 a3 a4 jr v).2.1 (set4 a1 a2 a3 a4 jr v).2.2.1 (set4 a1 a2 a3 a4 jr v).2.2.2 os 0 = if numB v = true then goS len k ([a1, a2, a3, a4].set jr v) os 0 else ⟨k, [a1, a2, a3, a4], os, 2⟩ := by
  obtain ⟨n1, n2, n3, n4⟩ := hn
  have h1 : regsB ([a1, a2, a3, a4].set jr v) = numB v := by
    match jr, hj with
    | 0, _ => simp [regsB, allN, n2, n3, n4]
    | 1, _ => simp [regsB, allN, n1, n3, n4]
    | 2, _ => simp [regsB, allN, n1, n2, n4]
    | 3, _ => simp [regsB, allN, n1, n2, n3]
  have h2 : ¬ (60 : Int) < (os.length : Int) := by omega
  unfold settledS
  rw [set4_list _ _ _ _ _ _ hj, h1]
  cases hv : numB v
  · simp
  · by_cases h3 : (len : Int) ≤ (k : Int) + 1
    · have h4 : belB ((k : Int) + 1) len = false := by simp [belB]; omega
      simp [h2, h4, goS, goP, goC, h3]
    · have h4 : belB ((k : Int) + 1) len = true := by simp [belB]; omega
      simp [h2, h4, goS, goP, goC, h3]

theorem settled_same {len k : Nat} {a1 a2 a3 a4 : Int} {os os' : List Int} (hn : numB a1 = true ∧ numB a2 = true ∧ numB a3 = true ∧ numB a4 = true) (h60 : os'.length ≤ 60) :
    settledS len k a1 a2 a3 a4 os (k + 1) a1 a2 a3 a4 os' 0 = goS len k [a1, a2, a3, a4] os' 0 := by
  obtain ⟨n1, n2, n3, n4⟩ := hn
  have h1 : regsB [a1, a2, a3, a4] = true := by simp [regsB, allN, n1, n2, n3, n4]
  have h2 : ¬ (60 : Int) < (os'.length : Int) := by omega
  unfold settledS
  rw [h1]
  by_cases h3 : (len : Int) ≤ (k : Int) + 1
  · have h4 : belB ((k : Int) + 1) len = false := by simp [belB]; omega
    simp [h2, h4, goS, goP, goC, h3]
  · have h4 : belB ((k : Int) + 1) len = true := by simp [belB]; omega
    simp [h2, h4, goS, goP, goC, h3]

theorem settled_over {len k : Nat} {a1 a2 a3 a4 p' b1 b2 b3 b4 code' : Int} {os os' : List Int} (h60 : 60 < os'.length) :
    settledS len k a1 a2 a3 a4 os p' b1 b2 b3 b4 os' code' = ⟨k, [a1, a2, a3, a4], os, 2⟩ := by
  unfold settledS
  rw [if_pos (.inr (by omega))]

theorem settled_to {len k : Nat} {a1 a2 a3 a4 n code' : Int} {os : List Int} (hn : numB a1 = true ∧ numB a2 = true ∧ numB a3 = true ∧ numB a4 = true) (h60 : os.length ≤ 60) (hb : belB n len = true) :
    settledS len k a1 a2 a3 a4 os n a1 a2 a3 a4 os code' = ⟨n, [a1, a2, a3, a4], os, code'⟩ := by
  obtain ⟨n1, n2, n3, n4⟩ := hn
  have h1 : regsB [a1, a2, a3, a4] = true := by simp [regsB, allN, n1, n2, n3, n4]
  have h2 : ¬ (60 : Int) < (os.length : Int) := by omega
  unfold settledS
  rw [h1, hb]
  simp [h2]

theorem do_set (b off len cap k : Nat) (g : Nat → I5) (ra oa : Option Addr) (rc oc : Nat) (a1 a2 a3 a4 : Int) (os : List Int) (ek eq ev : Int) (w : World) (jr ja jb : Nat) (hj : (g k).r = jr ∧ (g k).a = ja ∧ (g k).b = jb) (j4 : jr < 4 ∧ ja < 4 ∧ jb < 4) (hn : numB a1 = true ∧ numB a2 = true ∧ numB a3 = true ∧ numB a4 = true) (_hz : ∀ j, j < 4 → numB (zi [a1, a2, a3, a4] j) = true) (hl : (len : Int) ≤ 30) (hb : b < w.heap.size) (hI : InsAt w b off len g) (h60 : os.length ≤ 60) (h1 : Sl w ra [a1, a2, a3, a4]) (h2 : Sl w oa os) (hk : k < len) (hD : canB (nxK g len k [a1, a2, a3, a4] os 0) (nxP g len k [a1, a2, a3, a4] os 0) (nxW g len k [a1, a2, a3, a4] os 0) ek eq ev = true) (ho : (g k).o = 1) :
    Calls Try.prog 40 #[.slice (some ⟨b, off, none⟩) len cap, stV k ra 4 rc oa os.length oc 0, evV ek eq ev] w (DoneR w (doneS len (g k) k [a1, a2, a3, a4] os 0 ev) true) := by
  obtain ⟨hjr, hja, hjb⟩ := hj
  obtain ⟨j1, j2, j3⟩ := j4
  have e : settledS len k a1 a2 a3 a4 os (k + 1) (set4 a1 a2 a3 a4 jr ((g k).n)).1 (set4 a1 a2 a3 a4 jr ((g k).n)).2.1 (set4 a1 a2 a3 a4 jr ((g k).n)).2.2.1 (set4 a1 a2 a3 a4 jr ((g k).n)).2.2.2 os 0 = doneS len (g k) k [a1, a2, a3, a4] os 0 ev := by
    rw [settled_set hn h60 j1]
    simp [doneS, ho, calcN, hjr]
  rw [← e]
  refine doIn_step b off len cap k g ra oa rc oc a1 a2 a3 a4 os ek eq ev w 83 (run_enter Try.func83 (by kernel_rfl) rfl) (k + 1) (set4 a1 a2 a3 a4 jr ((g k).n)).1 (set4 a1 a2 a3 a4 jr ((g k).n)).2.1 (set4 a1 a2 a3 a4 jr ((g k).n)).2.2.1 (set4 a1 a2 a3 a4 jr ((g k).n)).2.2.2 os 0 (by unfold maxLen; omega) hb hI h60 h1 h2 hk hD (by rw [ho]; exact stepOf_1) (fun o1 c1 B wx hB hO => ?_)
  rw [hjr, hja, hjb]
  refine (step_set _ _ _ _ _ _ _ _ _ jr ja jb _ _ _ _ _ _ (by omega) (by omega) j1).mono ?_
  rintro e w' ⟨rfl, b⟩
  exact stepR_below hO b

theorem do_add (b off len cap k : Nat) (g : Nat → I5) (ra oa : Option Addr) (rc oc : Nat) (a1 a2 a3 a4 : Int) (os : List Int) (ek eq ev : Int) (w : World) (jr ja jb : Nat) (hj : (g k).r = jr ∧ (g k).a = ja ∧ (g k).b = jb) (j4 : jr < 4 ∧ ja < 4 ∧ jb < 4) (hn : numB a1 = true ∧ numB a2 = true ∧ numB a3 = true ∧ numB a4 = true) (_hz : ∀ j, j < 4 → numB (zi [a1, a2, a3, a4] j) = true) (hl : (len : Int) ≤ 30) (hb : b < w.heap.size) (hI : InsAt w b off len g) (h60 : os.length ≤ 60) (h1 : Sl w ra [a1, a2, a3, a4]) (h2 : Sl w oa os) (hk : k < len) (hD : canB (nxK g len k [a1, a2, a3, a4] os 0) (nxP g len k [a1, a2, a3, a4] os 0) (nxW g len k [a1, a2, a3, a4] os 0) ek eq ev = true) (ho : (g k).o = 2) :
    Calls Try.prog 40 #[.slice (some ⟨b, off, none⟩) len cap, stV k ra 4 rc oa os.length oc 0, evV ek eq ev] w (DoneR w (doneS len (g k) k [a1, a2, a3, a4] os 0 ev) true) := by
  obtain ⟨hjr, hja, hjb⟩ := hj
  obtain ⟨j1, j2, j3⟩ := j4
  have zA := numB_iff.mp (_hz ja j2)
  have zB := numB_iff.mp (_hz jb j3)
  have zM := mul_bound (_hz ja j2) (_hz jb j3)
  have e : settledS len k a1 a2 a3 a4 os (k + 1) (set4 a1 a2 a3 a4 jr (zi [a1, a2, a3, a4] ja + zi [a1, a2, a3, a4] jb)).1 (set4 a1 a2 a3 a4 jr (zi [a1, a2, a3, a4] ja + zi [a1, a2, a3, a4] jb)).2.1 (set4 a1 a2 a3 a4 jr (zi [a1, a2, a3, a4] ja + zi [a1, a2, a3, a4] jb)).2.2.1 (set4 a1 a2 a3 a4 jr (zi [a1, a2, a3, a4] ja + zi [a1, a2, a3, a4] jb)).2.2.2 os 0 = doneS len (g k) k [a1, a2, a3, a4] os 0 ev := by
    rw [settled_set hn h60 j1]
    simp [doneS, ho, calcN, hjr, hja, hjb]
  rw [← e]
  refine doIn_step b off len cap k g ra oa rc oc a1 a2 a3 a4 os ek eq ev w 84 (run_enter Try.func84 (by kernel_rfl) rfl) (k + 1) (set4 a1 a2 a3 a4 jr (zi [a1, a2, a3, a4] ja + zi [a1, a2, a3, a4] jb)).1 (set4 a1 a2 a3 a4 jr (zi [a1, a2, a3, a4] ja + zi [a1, a2, a3, a4] jb)).2.1 (set4 a1 a2 a3 a4 jr (zi [a1, a2, a3, a4] ja + zi [a1, a2, a3, a4] jb)).2.2.1 (set4 a1 a2 a3 a4 jr (zi [a1, a2, a3, a4] ja + zi [a1, a2, a3, a4] jb)).2.2.2 os 0 (by unfold maxLen; omega) hb hI h60 h1 h2 hk hD (by rw [ho]; exact stepOf_2) (fun o1 c1 B wx hB hO => ?_)
  rw [hjr, hja, hjb]
  refine (step_add _ _ _ _ _ _ _ _ _ jr ja jb _ _ _ _ _ _ (by omega) (by omega) j1 j2 j3 zA.1 zA.2 zB.1 zB.2 zM.1 zM.2).mono ?_
  rintro e w' ⟨rfl, b⟩
  exact stepR_below hO b

theorem do_sub (b off len cap k : Nat) (g : Nat → I5) (ra oa : Option Addr) (rc oc : Nat) (a1 a2 a3 a4 : Int) (os : List Int) (ek eq ev : Int) (w : World) (jr ja jb : Nat) (hj : (g k).r = jr ∧ (g k).a = ja ∧ (g k).b = jb) (j4 : jr < 4 ∧ ja < 4 ∧ jb < 4) (hn : numB a1 = true ∧ numB a2 = true ∧ numB a3 = true ∧ numB a4 = true) (_hz : ∀ j, j < 4 → numB (zi [a1, a2, a3, a4] j) = true) (hl : (len : Int) ≤ 30) (hb : b < w.heap.size) (hI : InsAt w b off len g) (h60 : os.length ≤ 60) (h1 : Sl w ra [a1, a2, a3, a4]) (h2 : Sl w oa os) (hk : k < len) (hD : canB (nxK g len k [a1, a2, a3, a4] os 0) (nxP g len k [a1, a2, a3, a4] os 0) (nxW g len k [a1, a2, a3, a4] os 0) ek eq ev = true) (ho : (g k).o = 3) :
    Calls Try.prog 40 #[.slice (some ⟨b, off, none⟩) len cap, stV k ra 4 rc oa os.length oc 0, evV ek eq ev] w (DoneR w (doneS len (g k) k [a1, a2, a3, a4] os 0 ev) true) := by
  obtain ⟨hjr, hja, hjb⟩ := hj
  obtain ⟨j1, j2, j3⟩ := j4
  have zA := numB_iff.mp (_hz ja j2)
  have zB := numB_iff.mp (_hz jb j3)
  have zM := mul_bound (_hz ja j2) (_hz jb j3)
  have e : settledS len k a1 a2 a3 a4 os (k + 1) (set4 a1 a2 a3 a4 jr (zi [a1, a2, a3, a4] ja - zi [a1, a2, a3, a4] jb)).1 (set4 a1 a2 a3 a4 jr (zi [a1, a2, a3, a4] ja - zi [a1, a2, a3, a4] jb)).2.1 (set4 a1 a2 a3 a4 jr (zi [a1, a2, a3, a4] ja - zi [a1, a2, a3, a4] jb)).2.2.1 (set4 a1 a2 a3 a4 jr (zi [a1, a2, a3, a4] ja - zi [a1, a2, a3, a4] jb)).2.2.2 os 0 = doneS len (g k) k [a1, a2, a3, a4] os 0 ev := by
    rw [settled_set hn h60 j1]
    simp [doneS, ho, calcN, hjr, hja, hjb]
  rw [← e]
  refine doIn_step b off len cap k g ra oa rc oc a1 a2 a3 a4 os ek eq ev w 85 (run_enter Try.func85 (by kernel_rfl) rfl) (k + 1) (set4 a1 a2 a3 a4 jr (zi [a1, a2, a3, a4] ja - zi [a1, a2, a3, a4] jb)).1 (set4 a1 a2 a3 a4 jr (zi [a1, a2, a3, a4] ja - zi [a1, a2, a3, a4] jb)).2.1 (set4 a1 a2 a3 a4 jr (zi [a1, a2, a3, a4] ja - zi [a1, a2, a3, a4] jb)).2.2.1 (set4 a1 a2 a3 a4 jr (zi [a1, a2, a3, a4] ja - zi [a1, a2, a3, a4] jb)).2.2.2 os 0 (by unfold maxLen; omega) hb hI h60 h1 h2 hk hD (by rw [ho]; exact stepOf_3) (fun o1 c1 B wx hB hO => ?_)
  rw [hjr, hja, hjb]
  refine (step_sub _ _ _ _ _ _ _ _ _ jr ja jb _ _ _ _ _ _ (by omega) (by omega) j1 j2 j3 zA.1 zA.2 zB.1 zB.2 zM.1 zM.2).mono ?_
  rintro e w' ⟨rfl, b⟩
  exact stepR_below hO b

theorem do_mul (b off len cap k : Nat) (g : Nat → I5) (ra oa : Option Addr) (rc oc : Nat) (a1 a2 a3 a4 : Int) (os : List Int) (ek eq ev : Int) (w : World) (jr ja jb : Nat) (hj : (g k).r = jr ∧ (g k).a = ja ∧ (g k).b = jb) (j4 : jr < 4 ∧ ja < 4 ∧ jb < 4) (hn : numB a1 = true ∧ numB a2 = true ∧ numB a3 = true ∧ numB a4 = true) (_hz : ∀ j, j < 4 → numB (zi [a1, a2, a3, a4] j) = true) (hl : (len : Int) ≤ 30) (hb : b < w.heap.size) (hI : InsAt w b off len g) (h60 : os.length ≤ 60) (h1 : Sl w ra [a1, a2, a3, a4]) (h2 : Sl w oa os) (hk : k < len) (hD : canB (nxK g len k [a1, a2, a3, a4] os 0) (nxP g len k [a1, a2, a3, a4] os 0) (nxW g len k [a1, a2, a3, a4] os 0) ek eq ev = true) (ho : (g k).o = 4) :
    Calls Try.prog 40 #[.slice (some ⟨b, off, none⟩) len cap, stV k ra 4 rc oa os.length oc 0, evV ek eq ev] w (DoneR w (doneS len (g k) k [a1, a2, a3, a4] os 0 ev) true) := by
  obtain ⟨hjr, hja, hjb⟩ := hj
  obtain ⟨j1, j2, j3⟩ := j4
  have zA := numB_iff.mp (_hz ja j2)
  have zB := numB_iff.mp (_hz jb j3)
  have zM := mul_bound (_hz ja j2) (_hz jb j3)
  have e : settledS len k a1 a2 a3 a4 os (k + 1) (set4 a1 a2 a3 a4 jr (zi [a1, a2, a3, a4] ja * zi [a1, a2, a3, a4] jb)).1 (set4 a1 a2 a3 a4 jr (zi [a1, a2, a3, a4] ja * zi [a1, a2, a3, a4] jb)).2.1 (set4 a1 a2 a3 a4 jr (zi [a1, a2, a3, a4] ja * zi [a1, a2, a3, a4] jb)).2.2.1 (set4 a1 a2 a3 a4 jr (zi [a1, a2, a3, a4] ja * zi [a1, a2, a3, a4] jb)).2.2.2 os 0 = doneS len (g k) k [a1, a2, a3, a4] os 0 ev := by
    rw [settled_set hn h60 j1]
    simp [doneS, ho, calcN, hjr, hja, hjb]
  rw [← e]
  refine doIn_step b off len cap k g ra oa rc oc a1 a2 a3 a4 os ek eq ev w 86 (run_enter Try.func86 (by kernel_rfl) rfl) (k + 1) (set4 a1 a2 a3 a4 jr (zi [a1, a2, a3, a4] ja * zi [a1, a2, a3, a4] jb)).1 (set4 a1 a2 a3 a4 jr (zi [a1, a2, a3, a4] ja * zi [a1, a2, a3, a4] jb)).2.1 (set4 a1 a2 a3 a4 jr (zi [a1, a2, a3, a4] ja * zi [a1, a2, a3, a4] jb)).2.2.1 (set4 a1 a2 a3 a4 jr (zi [a1, a2, a3, a4] ja * zi [a1, a2, a3, a4] jb)).2.2.2 os 0 (by unfold maxLen; omega) hb hI h60 h1 h2 hk hD (by rw [ho]; exact stepOf_4) (fun o1 c1 B wx hB hO => ?_)
  rw [hjr, hja, hjb]
  refine (step_mul _ _ _ _ _ _ _ _ _ jr ja jb _ _ _ _ _ _ (by omega) (by omega) j1 j2 j3 zA.1 zA.2 zB.1 zB.2 zM.1 zM.2).mono ?_
  rintro e w' ⟨rfl, b⟩
  exact stepR_below hO b

theorem do_less_yes (b off len cap k : Nat) (g : Nat → I5) (ra oa : Option Addr) (rc oc : Nat) (a1 a2 a3 a4 : Int) (os : List Int) (ek eq ev : Int) (w : World) (jr ja jb : Nat) (hj : (g k).r = jr ∧ (g k).a = ja ∧ (g k).b = jb) (j4 : jr < 4 ∧ ja < 4 ∧ jb < 4) (hn : numB a1 = true ∧ numB a2 = true ∧ numB a3 = true ∧ numB a4 = true) (_hz : ∀ j, j < 4 → numB (zi [a1, a2, a3, a4] j) = true) (hl : (len : Int) ≤ 30) (hb : b < w.heap.size) (hI : InsAt w b off len g) (h60 : os.length ≤ 60) (h1 : Sl w ra [a1, a2, a3, a4]) (h2 : Sl w oa os) (hk : k < len) (hD : canB (nxK g len k [a1, a2, a3, a4] os 0) (nxP g len k [a1, a2, a3, a4] os 0) (nxW g len k [a1, a2, a3, a4] os 0) ek eq ev = true) (ho : (g k).o = 5) (hlt : zi [a1, a2, a3, a4] ja < zi [a1, a2, a3, a4] jb) :
    Calls Try.prog 40 #[.slice (some ⟨b, off, none⟩) len cap, stV k ra 4 rc oa os.length oc 0, evV ek eq ev] w (DoneR w (doneS len (g k) k [a1, a2, a3, a4] os 0 ev) true) := by
  obtain ⟨hjr, hja, hjb⟩ := hj
  obtain ⟨j1, j2, j3⟩ := j4
  have e : settledS len k a1 a2 a3 a4 os (k + 1) (set4 a1 a2 a3 a4 jr (1)).1 (set4 a1 a2 a3 a4 jr (1)).2.1 (set4 a1 a2 a3 a4 jr (1)).2.2.1 (set4 a1 a2 a3 a4 jr (1)).2.2.2 os 0 = doneS len (g k) k [a1, a2, a3, a4] os 0 ev := by
    rw [settled_set hn h60 j1]
    simp [doneS, ho, calcN, hjr, hja, hjb, hlt]
  rw [← e]
  refine doIn_step b off len cap k g ra oa rc oc a1 a2 a3 a4 os ek eq ev w 87 (run_enter Try.func87 (by kernel_rfl) rfl) (k + 1) (set4 a1 a2 a3 a4 jr (1)).1 (set4 a1 a2 a3 a4 jr (1)).2.1 (set4 a1 a2 a3 a4 jr (1)).2.2.1 (set4 a1 a2 a3 a4 jr (1)).2.2.2 os 0 (by unfold maxLen; omega) hb hI h60 h1 h2 hk hD (by rw [ho]; exact stepOf_5) (fun o1 c1 B wx hB hO => ?_)
  rw [hjr, hja, hjb]
  refine (step_less_yes _ _ _ _ _ _ _ _ _ jr ja jb _ _ _ _ _ _ (by omega) (by omega) j1 j2 j3 hlt).mono ?_
  rintro e w' ⟨rfl, b⟩
  exact stepR_below hO b

theorem do_less_no (b off len cap k : Nat) (g : Nat → I5) (ra oa : Option Addr) (rc oc : Nat) (a1 a2 a3 a4 : Int) (os : List Int) (ek eq ev : Int) (w : World) (jr ja jb : Nat) (hj : (g k).r = jr ∧ (g k).a = ja ∧ (g k).b = jb) (j4 : jr < 4 ∧ ja < 4 ∧ jb < 4) (hn : numB a1 = true ∧ numB a2 = true ∧ numB a3 = true ∧ numB a4 = true) (_hz : ∀ j, j < 4 → numB (zi [a1, a2, a3, a4] j) = true) (hl : (len : Int) ≤ 30) (hb : b < w.heap.size) (hI : InsAt w b off len g) (h60 : os.length ≤ 60) (h1 : Sl w ra [a1, a2, a3, a4]) (h2 : Sl w oa os) (hk : k < len) (hD : canB (nxK g len k [a1, a2, a3, a4] os 0) (nxP g len k [a1, a2, a3, a4] os 0) (nxW g len k [a1, a2, a3, a4] os 0) ek eq ev = true) (ho : (g k).o = 5) (hlt : ¬ zi [a1, a2, a3, a4] ja < zi [a1, a2, a3, a4] jb) :
    Calls Try.prog 40 #[.slice (some ⟨b, off, none⟩) len cap, stV k ra 4 rc oa os.length oc 0, evV ek eq ev] w (DoneR w (doneS len (g k) k [a1, a2, a3, a4] os 0 ev) true) := by
  obtain ⟨hjr, hja, hjb⟩ := hj
  obtain ⟨j1, j2, j3⟩ := j4
  have e : settledS len k a1 a2 a3 a4 os (k + 1) (set4 a1 a2 a3 a4 jr (0)).1 (set4 a1 a2 a3 a4 jr (0)).2.1 (set4 a1 a2 a3 a4 jr (0)).2.2.1 (set4 a1 a2 a3 a4 jr (0)).2.2.2 os 0 = doneS len (g k) k [a1, a2, a3, a4] os 0 ev := by
    rw [settled_set hn h60 j1]
    simp [doneS, ho, calcN, hjr, hja, hjb, hlt]
  rw [← e]
  refine doIn_step b off len cap k g ra oa rc oc a1 a2 a3 a4 os ek eq ev w 87 (run_enter Try.func87 (by kernel_rfl) rfl) (k + 1) (set4 a1 a2 a3 a4 jr (0)).1 (set4 a1 a2 a3 a4 jr (0)).2.1 (set4 a1 a2 a3 a4 jr (0)).2.2.1 (set4 a1 a2 a3 a4 jr (0)).2.2.2 os 0 (by unfold maxLen; omega) hb hI h60 h1 h2 hk hD (by rw [ho]; exact stepOf_5) (fun o1 c1 B wx hB hO => ?_)
  rw [hjr, hja, hjb]
  refine (step_less_no _ _ _ _ _ _ _ _ _ jr ja jb _ _ _ _ _ _ (by omega) (by omega) j1 j2 j3 hlt).mono ?_
  rintro e w' ⟨rfl, b⟩
  exact stepR_below hO b

theorem do_send (b off len cap k : Nat) (g : Nat → I5) (ra oa : Option Addr) (rc oc : Nat) (a1 a2 a3 a4 : Int) (os : List Int) (ek eq ev : Int) (w : World) (jr ja jb : Nat) (hj : (g k).r = jr ∧ (g k).a = ja ∧ (g k).b = jb) (j4 : jr < 4 ∧ ja < 4 ∧ jb < 4) (hn : numB a1 = true ∧ numB a2 = true ∧ numB a3 = true ∧ numB a4 = true) (_hz : ∀ j, j < 4 → numB (zi [a1, a2, a3, a4] j) = true) (hl : (len : Int) ≤ 30) (hb : b < w.heap.size) (hI : InsAt w b off len g) (h60 : os.length ≤ 60) (h1 : Sl w ra [a1, a2, a3, a4]) (h2 : Sl w oa os) (hk : k < len) (hD : canB (nxK g len k [a1, a2, a3, a4] os 0) (nxP g len k [a1, a2, a3, a4] os 0) (nxW g len k [a1, a2, a3, a4] os 0) ek eq ev = true) (ho : (g k).o = 6) :
    Calls Try.prog 40 #[.slice (some ⟨b, off, none⟩) len cap, stV k ra 4 rc oa os.length oc 0, evV ek eq ev] w (DoneR w (doneS len (g k) k [a1, a2, a3, a4] os 0 ev) true) := by
  obtain ⟨hjr, hja, hjb⟩ := hj
  obtain ⟨j1, j2, j3⟩ := j4
  have e : settledS len k a1 a2 a3 a4 os (k + 1) a1 a2 a3 a4 os 0 = doneS len (g k) k [a1, a2, a3, a4] os 0 ev := by
    rw [settled_same hn h60]
    simp [doneS, ho]
  rw [← e]
  refine doIn_step b off len cap k g ra oa rc oc a1 a2 a3 a4 os ek eq ev w 88 (run_enter Try.func88 (by kernel_rfl) rfl) (k + 1) a1 a2 a3 a4 os 0 (by unfold maxLen; omega) hb hI h60 h1 h2 hk hD (by rw [ho]; exact stepOf_6) (fun o1 c1 B wx hB hO => ?_)
  rw [hjr, hja, hjb]
  refine (step_send _ _ _ _ _ _ _ _ _ jr ja jb _ _ _ _ _ _ (by omega) (by omega)).mono ?_
  rintro e w' ⟨rfl, b⟩
  exact stepR_below hO b

theorem do_take (b off len cap k : Nat) (g : Nat → I5) (ra oa : Option Addr) (rc oc : Nat) (a1 a2 a3 a4 : Int) (os : List Int) (ek eq ev : Int) (w : World) (jr ja jb : Nat) (hj : (g k).r = jr ∧ (g k).a = ja ∧ (g k).b = jb) (j4 : jr < 4 ∧ ja < 4 ∧ jb < 4) (hn : numB a1 = true ∧ numB a2 = true ∧ numB a3 = true ∧ numB a4 = true) (_hz : ∀ j, j < 4 → numB (zi [a1, a2, a3, a4] j) = true) (hl : (len : Int) ≤ 30) (hb : b < w.heap.size) (hI : InsAt w b off len g) (h60 : os.length ≤ 60) (h1 : Sl w ra [a1, a2, a3, a4]) (h2 : Sl w oa os) (hk : k < len) (hD : canB (nxK g len k [a1, a2, a3, a4] os 0) (nxP g len k [a1, a2, a3, a4] os 0) (nxW g len k [a1, a2, a3, a4] os 0) ek eq ev = true) (ho : (g k).o = 7) (hv : numB ev = true) :
    Calls Try.prog 40 #[.slice (some ⟨b, off, none⟩) len cap, stV k ra 4 rc oa os.length oc 0, evV ek eq ev] w (DoneR w (doneS len (g k) k [a1, a2, a3, a4] os 0 ev) true) := by
  obtain ⟨hjr, hja, hjb⟩ := hj
  obtain ⟨j1, j2, j3⟩ := j4
  have e : settledS len k a1 a2 a3 a4 os (k + 1) (set4 a1 a2 a3 a4 jr (ev)).1 (set4 a1 a2 a3 a4 jr (ev)).2.1 (set4 a1 a2 a3 a4 jr (ev)).2.2.1 (set4 a1 a2 a3 a4 jr (ev)).2.2.2 os 0 = doneS len (g k) k [a1, a2, a3, a4] os 0 ev := by
    rw [settled_set hn h60 j1, if_pos hv]
    simp [doneS, ho, hjr]
  rw [← e]
  refine doIn_step b off len cap k g ra oa rc oc a1 a2 a3 a4 os ek eq ev w 89 (run_enter Try.func89 (by kernel_rfl) rfl) (k + 1) (set4 a1 a2 a3 a4 jr (ev)).1 (set4 a1 a2 a3 a4 jr (ev)).2.1 (set4 a1 a2 a3 a4 jr (ev)).2.2.1 (set4 a1 a2 a3 a4 jr (ev)).2.2.2 os 0 (by unfold maxLen; omega) hb hI h60 h1 h2 hk hD (by rw [ho]; exact stepOf_7) (fun o1 c1 B wx hB hO => ?_)
  rw [hjr, hja, hjb]
  refine (step_take _ _ _ _ _ _ _ _ _ jr ja jb _ _ _ _ _ _ (by omega) (by omega) j1).mono ?_
  rintro e w' ⟨rfl, b⟩
  exact stepR_below hO b

theorem do_print (b off len cap k : Nat) (g : Nat → I5) (ra oa : Option Addr) (rc oc : Nat) (a1 a2 a3 a4 : Int) (os : List Int) (ek eq ev : Int) (w : World) (jr ja jb : Nat) (hj : (g k).r = jr ∧ (g k).a = ja ∧ (g k).b = jb) (j4 : jr < 4 ∧ ja < 4 ∧ jb < 4) (hn : numB a1 = true ∧ numB a2 = true ∧ numB a3 = true ∧ numB a4 = true) (_hz : ∀ j, j < 4 → numB (zi [a1, a2, a3, a4] j) = true) (hl : (len : Int) ≤ 30) (hb : b < w.heap.size) (hI : InsAt w b off len g) (h60 : os.length ≤ 60) (h1 : Sl w ra [a1, a2, a3, a4]) (h2 : Sl w oa os) (hk : k < len) (hD : canB (nxK g len k [a1, a2, a3, a4] os 0) (nxP g len k [a1, a2, a3, a4] os 0) (nxW g len k [a1, a2, a3, a4] os 0) ek eq ev = true) (ho : (g k).o = 8) :
    Calls Try.prog 40 #[.slice (some ⟨b, off, none⟩) len cap, stV k ra 4 rc oa os.length oc 0, evV ek eq ev] w (DoneR w (doneS len (g k) k [a1, a2, a3, a4] os 0 ev) true) := by
  obtain ⟨hjr, hja, hjb⟩ := hj
  obtain ⟨j1, j2, j3⟩ := j4
  have e : settledS len k a1 a2 a3 a4 os (k + 1) a1 a2 a3 a4 (os ++ [ev]) 0 = doneS len (g k) k [a1, a2, a3, a4] os 0 ev := by
    by_cases h : os.length = 60
    · rw [settled_over (by simp; omega)]
      simp [doneS, ho, h]
    · rw [settled_same hn (by simp; omega)]
      simp [doneS, ho, h]
  rw [← e]
  refine doIn_step b off len cap k g ra oa rc oc a1 a2 a3 a4 os ek eq ev w 90 (run_enter Try.func90 (by kernel_rfl) rfl) (k + 1) a1 a2 a3 a4 (os ++ [ev]) 0 (by unfold maxLen; omega) hb hI h60 h1 h2 hk hD (by rw [ho]; exact stepOf_8) (fun o1 c1 B wx hB hO => ?_)
  rw [hjr, hja, hjb]
  refine (step_print _ _ _ _ _ _ _ os _ jr ja jb _ _ _ _ _ B wx (by omega) (by omega) (by omega) hB hO).mono ?_
  rintro e w' ⟨oa', oc', rfl, p1, p2, p3, p4⟩
  have e1 : (os ++ [ev]).length = os.length + 1 := by simp
  unfold StepR
  rw [e1]
  exact ⟨oa', oc', rfl, p1, p2, p3, p4⟩

theorem do_jump (b off len cap k : Nat) (g : Nat → I5) (ra oa : Option Addr) (rc oc : Nat) (a1 a2 a3 a4 : Int) (os : List Int) (ek eq ev : Int) (w : World) (jr ja jb : Nat) (hj : (g k).r = jr ∧ (g k).a = ja ∧ (g k).b = jb) (j4 : jr < 4 ∧ ja < 4 ∧ jb < 4) (hn : numB a1 = true ∧ numB a2 = true ∧ numB a3 = true ∧ numB a4 = true) (_hz : ∀ j, j < 4 → numB (zi [a1, a2, a3, a4] j) = true) (hl : (len : Int) ≤ 30) (hb : b < w.heap.size) (hI : InsAt w b off len g) (h60 : os.length ≤ 60) (h1 : Sl w ra [a1, a2, a3, a4]) (h2 : Sl w oa os) (hk : k < len) (hD : canB (nxK g len k [a1, a2, a3, a4] os 0) (nxP g len k [a1, a2, a3, a4] os 0) (nxW g len k [a1, a2, a3, a4] os 0) ek eq ev = true) (ho : (g k).o = 9) (hb9 : belB (g k).n len = true) :
    Calls Try.prog 40 #[.slice (some ⟨b, off, none⟩) len cap, stV k ra 4 rc oa os.length oc 0, evV ek eq ev] w (DoneR w (doneS len (g k) k [a1, a2, a3, a4] os 0 ev) true) := by
  obtain ⟨hjr, hja, hjb⟩ := hj
  obtain ⟨j1, j2, j3⟩ := j4
  have e : settledS len k a1 a2 a3 a4 os (g k).n a1 a2 a3 a4 os 0 = doneS len (g k) k [a1, a2, a3, a4] os 0 ev := by
    rw [settled_to hn h60 hb9]
    simp [doneS, ho]
  rw [← e]
  refine doIn_step b off len cap k g ra oa rc oc a1 a2 a3 a4 os ek eq ev w 91 (run_enter Try.func91 (by kernel_rfl) rfl) (g k).n a1 a2 a3 a4 os 0 (by unfold maxLen; omega) hb hI h60 h1 h2 hk hD (by rw [ho]; exact stepOf_9) (fun o1 c1 B wx hB hO => ?_)
  rw [hjr, hja, hjb]
  refine (step_jump _ _ _ _ _ _ _ _ _ jr ja jb _ _ _ _ _ _ (by omega) (by omega)).mono ?_
  rintro e w' ⟨rfl, b⟩
  exact stepR_below hO b

theorem do_zero_yes (b off len cap k : Nat) (g : Nat → I5) (ra oa : Option Addr) (rc oc : Nat) (a1 a2 a3 a4 : Int) (os : List Int) (ek eq ev : Int) (w : World) (jr ja jb : Nat) (hj : (g k).r = jr ∧ (g k).a = ja ∧ (g k).b = jb) (j4 : jr < 4 ∧ ja < 4 ∧ jb < 4) (hn : numB a1 = true ∧ numB a2 = true ∧ numB a3 = true ∧ numB a4 = true) (_hz : ∀ j, j < 4 → numB (zi [a1, a2, a3, a4] j) = true) (hl : (len : Int) ≤ 30) (hb : b < w.heap.size) (hI : InsAt w b off len g) (h60 : os.length ≤ 60) (h1 : Sl w ra [a1, a2, a3, a4]) (h2 : Sl w oa os) (hk : k < len) (hD : canB (nxK g len k [a1, a2, a3, a4] os 0) (nxP g len k [a1, a2, a3, a4] os 0) (nxW g len k [a1, a2, a3, a4] os 0) ek eq ev = true) (ho : (g k).o = 10) (hb9 : belB (g k).n len = true) (hz0 : zi [a1, a2, a3, a4] ja = 0) :
    Calls Try.prog 40 #[.slice (some ⟨b, off, none⟩) len cap, stV k ra 4 rc oa os.length oc 0, evV ek eq ev] w (DoneR w (doneS len (g k) k [a1, a2, a3, a4] os 0 ev) true) := by
  obtain ⟨hjr, hja, hjb⟩ := hj
  obtain ⟨j1, j2, j3⟩ := j4
  have e : settledS len k a1 a2 a3 a4 os (g k).n a1 a2 a3 a4 os 0 = doneS len (g k) k [a1, a2, a3, a4] os 0 ev := by
    rw [settled_to hn h60 hb9]
    simp [doneS, ho, hja, hz0]
  rw [← e]
  refine doIn_step b off len cap k g ra oa rc oc a1 a2 a3 a4 os ek eq ev w 92 (run_enter Try.func92 (by kernel_rfl) rfl) (g k).n a1 a2 a3 a4 os 0 (by unfold maxLen; omega) hb hI h60 h1 h2 hk hD (by rw [ho]; exact stepOf_10) (fun o1 c1 B wx hB hO => ?_)
  rw [hjr, hja, hjb]
  refine (step_zero_yes _ _ _ _ _ _ _ _ _ jr ja jb _ _ _ _ _ _ (by omega) (by omega) j2 (by simp [hz0])).mono ?_
  rintro e w' ⟨rfl, b⟩
  exact stepR_below hO b

theorem do_zero_no (b off len cap k : Nat) (g : Nat → I5) (ra oa : Option Addr) (rc oc : Nat) (a1 a2 a3 a4 : Int) (os : List Int) (ek eq ev : Int) (w : World) (jr ja jb : Nat) (hj : (g k).r = jr ∧ (g k).a = ja ∧ (g k).b = jb) (j4 : jr < 4 ∧ ja < 4 ∧ jb < 4) (hn : numB a1 = true ∧ numB a2 = true ∧ numB a3 = true ∧ numB a4 = true) (_hz : ∀ j, j < 4 → numB (zi [a1, a2, a3, a4] j) = true) (hl : (len : Int) ≤ 30) (hb : b < w.heap.size) (hI : InsAt w b off len g) (h60 : os.length ≤ 60) (h1 : Sl w ra [a1, a2, a3, a4]) (h2 : Sl w oa os) (hk : k < len) (hD : canB (nxK g len k [a1, a2, a3, a4] os 0) (nxP g len k [a1, a2, a3, a4] os 0) (nxW g len k [a1, a2, a3, a4] os 0) ek eq ev = true) (ho : (g k).o = 10) (hz0 : ¬ zi [a1, a2, a3, a4] ja = 0) :
    Calls Try.prog 40 #[.slice (some ⟨b, off, none⟩) len cap, stV k ra 4 rc oa os.length oc 0, evV ek eq ev] w (DoneR w (doneS len (g k) k [a1, a2, a3, a4] os 0 ev) true) := by
  obtain ⟨hjr, hja, hjb⟩ := hj
  obtain ⟨j1, j2, j3⟩ := j4
  have e : settledS len k a1 a2 a3 a4 os (k + 1) a1 a2 a3 a4 os 0 = doneS len (g k) k [a1, a2, a3, a4] os 0 ev := by
    rw [settled_same hn h60]
    simp [doneS, ho, hja, hz0]
  rw [← e]
  refine doIn_step b off len cap k g ra oa rc oc a1 a2 a3 a4 os ek eq ev w 92 (run_enter Try.func92 (by kernel_rfl) rfl) (k + 1) a1 a2 a3 a4 os 0 (by unfold maxLen; omega) hb hI h60 h1 h2 hk hD (by rw [ho]; exact stepOf_10) (fun o1 c1 B wx hB hO => ?_)
  rw [hjr, hja, hjb]
  refine (step_zero_no _ _ _ _ _ _ _ _ _ jr ja jb _ _ _ _ _ _ (by omega) (by omega) j2 (by simpa using hz0)).mono ?_
  rintro e w' ⟨rfl, b⟩
  exact stepR_below hO b

theorem do_end (b off len cap k : Nat) (g : Nat → I5) (ra oa : Option Addr) (rc oc : Nat) (a1 a2 a3 a4 : Int) (os : List Int) (ek eq ev : Int) (w : World) (jr ja jb : Nat) (hj : (g k).r = jr ∧ (g k).a = ja ∧ (g k).b = jb) (j4 : jr < 4 ∧ ja < 4 ∧ jb < 4) (hn : numB a1 = true ∧ numB a2 = true ∧ numB a3 = true ∧ numB a4 = true) (_hz : ∀ j, j < 4 → numB (zi [a1, a2, a3, a4] j) = true) (hl : (len : Int) ≤ 30) (hb : b < w.heap.size) (hI : InsAt w b off len g) (h60 : os.length ≤ 60) (h1 : Sl w ra [a1, a2, a3, a4]) (h2 : Sl w oa os) (hk : k < len) (hD : canB (nxK g len k [a1, a2, a3, a4] os 0) (nxP g len k [a1, a2, a3, a4] os 0) (nxW g len k [a1, a2, a3, a4] os 0) ek eq ev = true) (ho : (g k).o = 11) :
    Calls Try.prog 40 #[.slice (some ⟨b, off, none⟩) len cap, stV k ra 4 rc oa os.length oc 0, evV ek eq ev] w (DoneR w (doneS len (g k) k [a1, a2, a3, a4] os 0 ev) true) := by
  obtain ⟨hjr, hja, hjb⟩ := hj
  obtain ⟨j1, j2, j3⟩ := j4
  have e : settledS len k a1 a2 a3 a4 os k a1 a2 a3 a4 os 1 = doneS len (g k) k [a1, a2, a3, a4] os 0 ev := by
    rw [settled_to hn h60 (by simp [belB]; omega)]
    simp [doneS, ho]
  rw [← e]
  refine doIn_step b off len cap k g ra oa rc oc a1 a2 a3 a4 os ek eq ev w 93 (run_enter Try.func93 (by kernel_rfl) rfl) k a1 a2 a3 a4 os 1 (by unfold maxLen; omega) hb hI h60 h1 h2 hk hD (by rw [ho]; exact stepOf_11) (fun o1 c1 B wx hB hO => ?_)
  rw [hjr, hja, hjb]
  refine (step_end _ _ _ _ _ _ _ _ _ jr ja jb _ _ _ _ _ _ (by omega) (by omega)).mono ?_
  rintro e w' ⟨rfl, b⟩
  exact stepR_below hO b

end Go.Proofs.Ytmbmhpginegggaa
