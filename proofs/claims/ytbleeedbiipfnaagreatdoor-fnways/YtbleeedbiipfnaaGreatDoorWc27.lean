/- The walks of the program's rows of events: canPut, putOne, putNext, allPut. -/
import Derived.Test.YtbleeedbiipfnaaGreatDoorWc0
import Derived.Test.YtbleeedbiipfnaaGreatDoorWc25
import Derived.Test.YtbleeedbiipfnaaGreatDoorWc15
import Derived.Test.YtbleeedbiipfnaaGreatDoorWc26
import Derived.Test.YtbleeedbiipfnaaGreatDoorWc24
import Derived.Lib.QuietBelow
import Derived.BigRegion
import Derived.BigQuiet
namespace Go.Proofs.YtbleeedbiipfnaaGreatDoor
set_option maxRecDepth 100000
set_option maxHeartbeats 1000000
open Go.ChangeShapes Go.WideShapes Go.ChangeAt Go.RowKit Go.Deep
def flatI (h : Nat → I2) : Nat → List Value
 | 0 => []
 | n + 1 => flatI h n ++ [.bool (h n).m, .int .i64 (h n).v]
def OwnT (w : World) (B : Nat) (v : Value) (n : Nat) (h : Nat → I2) : Prop := ∃ g cap, v = .slice (some ⟨g, 0, none⟩) n cap ∧ B ≤ g ∧ g < w.heap.size ∧ ItAt w g 0 n h ∧ ∀ j, w.frozen? ⟨g, j, none⟩ = false
def markI (k : Int) (i : Nat) : I2 := ⟨(k + 2 * i) % 3 == 0, k + 2 * i + 1⟩
def cnt (eh : Nat → E3) (kd pr : Int) (n : Nat) : Nat := (plN eh kd pr n).length
theorem cnt_zero (eh : Nat → E3) (kd pr : Int) : cnt eh kd pr 0 = 0 := rfl
theorem cnt_hit {eh : Nat → E3} {kd pr : Int} {n : Nat} (h : hitB eh kd pr n = true) : cnt eh kd pr (n + 1) = cnt eh kd pr n + 1 := by
 unfold cnt
 rw [plN, if_pos h, List.length_append]
 rfl
theorem cnt_not {eh : Nat → E3} {kd pr : Int} {n : Nat} (h : hitB eh kd pr n = false) : cnt eh kd pr (n + 1) = cnt eh kd pr n := by
 unfold cnt
 rw [plN, if_neg (by rw [h]; decide)]
theorem cnt_le (eh : Nat → E3) (kd pr : Int) (n : Nat) : cnt eh kd pr n ≤ n := plN_le eh kd pr n
theorem cnt_mono (eh : Nat → E3) (kd pr : Int) {a b : Nat} (h : a ≤ b) : cnt eh kd pr a ≤ cnt eh kd pr b := by
 induction b with
 | zero =>
  have : a = 0 := by omega
  subst this
  exact Nat.le_refl _
 | succ b ih =>
  by_cases e : a = b + 1
  ·subst e
   exact Nat.le_refl _
  ·have := ih (by omega)
   rcases Bool.eq_false_or_eq_true (hitB eh kd pr b) with t | t
   ·rw [cnt_hit t]
    omega
   ·rw [cnt_not t]
    exact this
theorem hitB_iff {eh : Nat → E3} {kd pr : Int} {i : Nat} : hitB eh kd pr i = true ↔ (eh i).k = kd ∧ (eh i).q = pr := by
 simp [hitB]
structure Hs where
 n : Nat
 l : Nat → Nat
 e : Nat → Nat → E3
def Hs.Peers (x : Hs) : Prop := ∀ p, p < x.n → ∀ i, i < x.l p → 0 ≤ (x.e p i).q ∧ (x.e p i).q < (x.n : Int)
def Hs.Can (x : Hs) (d : Nat → Nat) (p : Nat) : Prop :=
 d p < x.l p ∧ ((x.e p (d p)).k = 3 → cnt (x.e p) 3 (x.e p (d p)).q (d p) < cnt (x.e (x.e p (d p)).q.toNat) 2 p (d (x.e p (d p)).q.toNat))
def up (d : Nat → Nat) (p : Nat) : Nat → Nat := fun i => if i = p then d i + 1 else d i
theorem up_same (d : Nat → Nat) (p : Nat) : up d p p = d p + 1 := by simp [up]
theorem up_other {d : Nat → Nat} {p i : Nat} (h : i ≠ p) : up d p i = d i := by simp [up, h]
inductive Hs.Put (x : Hs) : (Nat → Nat) → Prop
 | start : x.Put (fun _ => 0)
 | next {d : Nat → Nat} {p : Nat} : x.Put d → p < x.n → x.Can d p → x.Put (up d p)
def Hs.All (x : Hs) (d : Nat → Nat) : Prop := ∀ p, p < x.n → d p = x.l p
def Hs.Row (x : Hs) : Prop := ∃ d, x.Put d ∧ x.All d
theorem Hs.Put.le {x : Hs} {d : Nat → Nat} (h : x.Put d) : ∀ p, d p ≤ x.l p := by
 induction h with
 | start => exact fun _ => Nat.zero_le _
 | next _ _ hc ih =>
  rename_i d p _ _
  intro i
  by_cases e : i = p
  ·subst e
   rw [up_same]
   exact hc.1
  ·rw [up_other e]
   exact ih i
theorem Hs.Put.stuck {x : Hs} {d s : Nat → Nat} (h : x.Put d) (hp : x.Peers) (hs : ∀ p, p < x.n → ¬ x.Can s p) : ∀ p, p < x.n → d p ≤ s p := by
 induction h with
 | start => exact fun _ _ => Nat.zero_le _
 | next _ hpn hc ih =>
  rename_i d p _
  intro i hi
  by_cases e : i = p
  ·subst e
   rw [up_same]
   have h1 := ih i hi
   by_cases e : d i = s i
   ·exfalso
    refine hs i hi ⟨by rw [← e]; exact hc.1, fun hk => ?_⟩
    rw [← e] at hk ⊢
    have h2 := hc.2 hk
    have hq := hp i hi (d i) hc.1
    exact Nat.lt_of_lt_of_le h2 (cnt_mono _ _ _ (ih _ (by omega)))
   ·omega
  ·rw [up_other e]
   exact ih i hi
theorem Hs.row_iff {x : Hs} {s : Nat → Nat} (h : x.Put s) (hp : x.Peers) (hs : ∀ p, p < x.n → ¬ x.Can s p) : x.Row ↔ x.All s := by
 refine ⟨fun ⟨d, hd, ha⟩ p hpn => ?_, fun ha => ⟨s, h, ha⟩⟩
 have h1 := hd.stuck hp hs p hpn
 have h2 := h.le p
 have h3 := ha p hpn
 omega
def Hs.opn (x : Hs) (d : Nat → Nat) (a b : Nat) : Int := (cnt (x.e a) 2 b (d a) : Int) - (cnt (x.e b) 3 a (d b) : Int)
theorem Hs.opn_start (x : Hs) (a b : Nat) : x.opn (fun _ => 0) a b = 0 := by simp [Hs.opn, cnt_zero]
theorem Hs.can_iff {x : Hs} {d : Nat → Nat} {p : Nat} (hp : x.Peers) (hpn : p < x.n) : x.Can d p ↔ d p < x.l p ∧ ((x.e p (d p)).k = 3 → 0 < x.opn d (x.e p (d p)).q.toNat p) := by
 unfold Hs.Can Hs.opn
 refine and_congr_right fun hl => ?_
 have hq := hp p hpn _ hl
 rw [show (((x.e p (d p)).q.toNat : Nat) : Int) = (x.e p (d p)).q by omega]
 refine ⟨fun h hk => ?_, fun h hk => ?_⟩
 ·have := h hk
  omega
 ·have := h hk
  omega
theorem Hs.opn_up {x : Hs} {d : Nat → Nat} {p a b : Nat} : x.opn (up d p) a b = x.opn d a b + (if a = p ∧ (x.e p (d p)).k = 2 ∧ (x.e p (d p)).q = (b : Int) then 1 else 0) - (if b = p ∧ (x.e p (d p)).k = 3 ∧ (x.e p (d p)).q = (a : Int) then 1 else 0) := by
 have hA : (cnt (x.e a) 2 b (up d p a) : Int) = cnt (x.e a) 2 b (d a) + (if a = p ∧ (x.e p (d p)).k = 2 ∧ (x.e p (d p)).q = (b : Int) then 1 else 0) := by
  by_cases e : a = p
  ·subst e
   rw [up_same]
   rcases Bool.eq_false_or_eq_true (hitB (x.e a) 2 b (d a)) with t | t
   ·rw [cnt_hit t, if_pos ⟨rfl, hitB_iff.1 t⟩]
    omega
   ·rw [cnt_not t, if_neg (fun h => by rw [hitB_iff.2 h.2] at t; cases t)]
    omega
  ·rw [up_other e, if_neg (fun h => e h.1)]
   omega
 have hB : (cnt (x.e b) 3 a (up d p b) : Int) = cnt (x.e b) 3 a (d b) + (if b = p ∧ (x.e p (d p)).k = 3 ∧ (x.e p (d p)).q = (a : Int) then 1 else 0) := by
  by_cases e : b = p
  ·subst e
   rw [up_same]
   rcases Bool.eq_false_or_eq_true (hitB (x.e b) 3 a (d b)) with t | t
   ·rw [cnt_hit t, if_pos ⟨rfl, hitB_iff.1 t⟩]
    omega
   ·rw [cnt_not t, if_neg (fun h => by rw [hitB_iff.2 h.2] at t; cases t)]
    omega
  ·rw [up_other e, if_neg (fun h => e h.1)]
   omega
 unfold Hs.opn
 rw [hA, hB]
 omega
theorem run_enter {f : FuncId} {fn : Func} {c : Code} (hf : Tryz.prog.funcs[f]? = some fn) (hname : (fn.name == "runtime.NumGoroutine") = false) (hb : fn.body = some c) (args : Array Value) (w : World) :
  (callFunc f args).run Tryz.prog w = .ok (.enter f args) w := by
 have h1 : fn.name ≠ "runtime.NumGoroutine" := by simpa using hname
 simp [callFunc, hf, h1, hb]
theorem stepR_below {w w' : World} {B : Nat} {o1 : Option Addr} {c1 : Nat} {os : List Int} {p' b1 b2 b3 b4 code' : Int} (hO : OwnI w B (.slice o1 os.length c1) os) (hb : Below w.heap.size w w') :
  StepR w B (.slice o1 os.length c1) os p' b1 b2 b3 b4 os code' (.returned (dV p' b1 b2 b3 b4 o1 os.length c1 code')) w' :=
 ⟨o1, c1, rfl, hO.below hb, hO.below hb, grown_any (grown_of_below hb) _, fun _ h => .inl h⟩
theorem settled_set {len k : Nat} {a1 a2 a3 a4 : Int} {os : List Int} {jr : Nat} {v : Int} (hn : numB a1 = true ∧ numB a2 = true ∧ numB a3 = true ∧ numB a4 = true) (h60 : os.length ≤ 60) (hj : jr < 4) :
  settledS len k a1 a2 a3 a4 os (k + 1) (set4 a1 a2 a3 a4 jr v).1 (set4 a1 a2 a3 a4 jr v).2.1 (set4 a1 a2 a3 a4 jr v).2.2.1 (set4 a1 a2 a3 a4 jr v).2.2.2 os 0 = if numB v = true then goS len k ([a1, a2, a3, a4].set jr v) os 0 else ⟨k, [a1, a2, a3, a4], os, 2⟩ := by
 obtain ⟨n1, n2, n3, n4⟩ := hn
 have h1 : regsB ([a1, a2, a3, a4].set jr v) = numB v := by
  match jr, hj with
  | 0, _ => simp [regsB, allN, n2, n3, n4]
  | 1, _ => simp [regsB, allN, n1, n3, n4]
  | 2, _ => simp [regsB, allN, n1, n2, n4]
  | 3, _ => simp [regsB, allN, n1, n2, n3]
 have h2 : ¬ (60 : Int) < (os.length : Int) := by omega
 unfold settledS
 rw [set4_list _ _ _ _ _ _ hj, h1]
 cases hv : numB v
 ·simp
 ·by_cases h3 : (len : Int) ≤ (k : Int) + 1
  ·have h4 : belB ((k : Int) + 1) len = false := by simp [belB]; omega
   simp [h2, h4, goS, goP, goC, h3]
  ·have h4 : belB ((k : Int) + 1) len = true := by simp [belB]; omega
   simp [h2, h4, goS, goP, goC, h3]
theorem settled_same {len k : Nat} {a1 a2 a3 a4 : Int} {os os' : List Int} (hn : numB a1 = true ∧ numB a2 = true ∧ numB a3 = true ∧ numB a4 = true) (h60 : os'.length ≤ 60) :
  settledS len k a1 a2 a3 a4 os (k + 1) a1 a2 a3 a4 os' 0 = goS len k [a1, a2, a3, a4] os' 0 := by
 obtain ⟨n1, n2, n3, n4⟩ := hn
 have h1 : regsB [a1, a2, a3, a4] = true := by simp [regsB, allN, n1, n2, n3, n4]
 have h2 : ¬ (60 : Int) < (os'.length : Int) := by omega
 unfold settledS
 rw [h1]
 by_cases h3 : (len : Int) ≤ (k : Int) + 1
 ·have h4 : belB ((k : Int) + 1) len = false := by simp [belB]; omega
  simp [h2, h4, goS, goP, goC, h3]
 ·have h4 : belB ((k : Int) + 1) len = true := by simp [belB]; omega
  simp [h2, h4, goS, goP, goC, h3]
theorem settled_over {len k : Nat} {a1 a2 a3 a4 p' b1 b2 b3 b4 code' : Int} {os os' : List Int} (h60 : 60 < os'.length) :
  settledS len k a1 a2 a3 a4 os p' b1 b2 b3 b4 os' code' = ⟨k, [a1, a2, a3, a4], os, 2⟩ := by
 unfold settledS
 rw [if_pos (.inr (by omega))]
theorem settled_to {len k : Nat} {a1 a2 a3 a4 n code' : Int} {os : List Int} (hn : numB a1 = true ∧ numB a2 = true ∧ numB a3 = true ∧ numB a4 = true) (h60 : os.length ≤ 60) (hb : belB n len = true) :
  settledS len k a1 a2 a3 a4 os n a1 a2 a3 a4 os code' = ⟨n, [a1, a2, a3, a4], os, code'⟩ := by
 obtain ⟨n1, n2, n3, n4⟩ := hn
 have h1 : regsB [a1, a2, a3, a4] = true := by simp [regsB, allN, n1, n2, n3, n4]
 have h2 : ¬ (60 : Int) < (os.length : Int) := by omega
 unfold settledS
 rw [h1, hb]
 simp [h2]
theorem do_set (b off len cap k : Nat) (g : Nat → I5) (ra oa : Option Addr) (rc oc : Nat) (a1 a2 a3 a4 : Int) (os : List Int) (ek eq ev : Int) (w : World) (jr ja jb : Nat) (hj : (g k).r = jr ∧ (g k).a = ja ∧ (g k).b = jb) (j4 : jr < 4 ∧ ja < 4 ∧ jb < 4) (hn : numB a1 = true ∧ numB a2 = true ∧ numB a3 = true ∧ numB a4 = true) (_hz : ∀ j, j < 4 → numB (zi [a1, a2, a3, a4] j) = true) (hl : (len : Int) ≤ 30) (hb : b < w.heap.size) (hI : InsAt w b off len g) (h60 : os.length ≤ 60) (h1 : Sl w ra [a1, a2, a3, a4]) (h2 : Sl w oa os) (hk : k < len) (hD : canB (nxK g len k [a1, a2, a3, a4] os 0) (nxP g len k [a1, a2, a3, a4] os 0) (nxW g len k [a1, a2, a3, a4] os 0) ek eq ev = true) (ho : (g k).o = 1) :
  Calls Tryz.prog 133 #[.slice (some ⟨b, off, none⟩) len cap, stV k ra 4 rc oa os.length oc 0, evV ek eq ev] w (DoneR w (doneS len (g k) k [a1, a2, a3, a4] os 0 ev) true) := by
 obtain ⟨hjr, hja, hjb⟩ := hj
 obtain ⟨j1, j2, j3⟩ := j4
 have e : settledS len k a1 a2 a3 a4 os (k + 1) (set4 a1 a2 a3 a4 jr ((g k).n)).1 (set4 a1 a2 a3 a4 jr ((g k).n)).2.1 (set4 a1 a2 a3 a4 jr ((g k).n)).2.2.1 (set4 a1 a2 a3 a4 jr ((g k).n)).2.2.2 os 0 = doneS len (g k) k [a1, a2, a3, a4] os 0 ev := by
  rw [settled_set hn h60 j1]
  simp [doneS, ho, calcN, hjr]
 rw [← e]
 refine doIn_step b off len cap k g ra oa rc oc a1 a2 a3 a4 os ek eq ev w 216 (run_enter Tryz.func216 (by kernel_rfl) rfl) (k + 1) (set4 a1 a2 a3 a4 jr ((g k).n)).1 (set4 a1 a2 a3 a4 jr ((g k).n)).2.1 (set4 a1 a2 a3 a4 jr ((g k).n)).2.2.1 (set4 a1 a2 a3 a4 jr ((g k).n)).2.2.2 os 0 (by unfold maxLen; omega) hb hI h60 h1 h2 hk hD (by rw [ho]; exact stepOf_1) (fun o1 c1 B wx hB hO => ?_)
 rw [hjr, hja, hjb]
 refine (step_set _ _ _ _ _ _ _ _ _ jr ja jb _ _ _ _ _ _ (by omega) (by omega) j1).mono ?_
 rintro e w' ⟨rfl, b⟩
 exact stepR_below hO b
theorem do_add (b off len cap k : Nat) (g : Nat → I5) (ra oa : Option Addr) (rc oc : Nat) (a1 a2 a3 a4 : Int) (os : List Int) (ek eq ev : Int) (w : World) (jr ja jb : Nat) (hj : (g k).r = jr ∧ (g k).a = ja ∧ (g k).b = jb) (j4 : jr < 4 ∧ ja < 4 ∧ jb < 4) (hn : numB a1 = true ∧ numB a2 = true ∧ numB a3 = true ∧ numB a4 = true) (_hz : ∀ j, j < 4 → numB (zi [a1, a2, a3, a4] j) = true) (hl : (len : Int) ≤ 30) (hb : b < w.heap.size) (hI : InsAt w b off len g) (h60 : os.length ≤ 60) (h1 : Sl w ra [a1, a2, a3, a4]) (h2 : Sl w oa os) (hk : k < len) (hD : canB (nxK g len k [a1, a2, a3, a4] os 0) (nxP g len k [a1, a2, a3, a4] os 0) (nxW g len k [a1, a2, a3, a4] os 0) ek eq ev = true) (ho : (g k).o = 2) :
  Calls Tryz.prog 133 #[.slice (some ⟨b, off, none⟩) len cap, stV k ra 4 rc oa os.length oc 0, evV ek eq ev] w (DoneR w (doneS len (g k) k [a1, a2, a3, a4] os 0 ev) true) := by
 obtain ⟨hjr, hja, hjb⟩ := hj
 obtain ⟨j1, j2, j3⟩ := j4
 have zA := numB_iff.mp (_hz ja j2)
 have zB := numB_iff.mp (_hz jb j3)
 have zM := mul_bound (_hz ja j2) (_hz jb j3)
 have e : settledS len k a1 a2 a3 a4 os (k + 1) (set4 a1 a2 a3 a4 jr (zi [a1, a2, a3, a4] ja + zi [a1, a2, a3, a4] jb)).1 (set4 a1 a2 a3 a4 jr (zi [a1, a2, a3, a4] ja + zi [a1, a2, a3, a4] jb)).2.1 (set4 a1 a2 a3 a4 jr (zi [a1, a2, a3, a4] ja + zi [a1, a2, a3, a4] jb)).2.2.1 (set4 a1 a2 a3 a4 jr (zi [a1, a2, a3, a4] ja + zi [a1, a2, a3, a4] jb)).2.2.2 os 0 = doneS len (g k) k [a1, a2, a3, a4] os 0 ev := by
  rw [settled_set hn h60 j1]
  simp [doneS, ho, calcN, hjr, hja, hjb]
 rw [← e]
 refine doIn_step b off len cap k g ra oa rc oc a1 a2 a3 a4 os ek eq ev w 217 (run_enter Tryz.func217 (by kernel_rfl) rfl) (k + 1) (set4 a1 a2 a3 a4 jr (zi [a1, a2, a3, a4] ja + zi [a1, a2, a3, a4] jb)).1 (set4 a1 a2 a3 a4 jr (zi [a1, a2, a3, a4] ja + zi [a1, a2, a3, a4] jb)).2.1 (set4 a1 a2 a3 a4 jr (zi [a1, a2, a3, a4] ja + zi [a1, a2, a3, a4] jb)).2.2.1 (set4 a1 a2 a3 a4 jr (zi [a1, a2, a3, a4] ja + zi [a1, a2, a3, a4] jb)).2.2.2 os 0 (by unfold maxLen; omega) hb hI h60 h1 h2 hk hD (by rw [ho]; exact stepOf_2) (fun o1 c1 B wx hB hO => ?_)
 rw [hjr, hja, hjb]
 refine (step_add _ _ _ _ _ _ _ _ _ jr ja jb _ _ _ _ _ _ (by omega) (by omega) j1 j2 j3 zA.1 zA.2 zB.1 zB.2 zM.1 zM.2).mono ?_
 rintro e w' ⟨rfl, b⟩
 exact stepR_below hO b
theorem do_sub (b off len cap k : Nat) (g : Nat → I5) (ra oa : Option Addr) (rc oc : Nat) (a1 a2 a3 a4 : Int) (os : List Int) (ek eq ev : Int) (w : World) (jr ja jb : Nat) (hj : (g k).r = jr ∧ (g k).a = ja ∧ (g k).b = jb) (j4 : jr < 4 ∧ ja < 4 ∧ jb < 4) (hn : numB a1 = true ∧ numB a2 = true ∧ numB a3 = true ∧ numB a4 = true) (_hz : ∀ j, j < 4 → numB (zi [a1, a2, a3, a4] j) = true) (hl : (len : Int) ≤ 30) (hb : b < w.heap.size) (hI : InsAt w b off len g) (h60 : os.length ≤ 60) (h1 : Sl w ra [a1, a2, a3, a4]) (h2 : Sl w oa os) (hk : k < len) (hD : canB (nxK g len k [a1, a2, a3, a4] os 0) (nxP g len k [a1, a2, a3, a4] os 0) (nxW g len k [a1, a2, a3, a4] os 0) ek eq ev = true) (ho : (g k).o = 3) :
  Calls Tryz.prog 133 #[.slice (some ⟨b, off, none⟩) len cap, stV k ra 4 rc oa os.length oc 0, evV ek eq ev] w (DoneR w (doneS len (g k) k [a1, a2, a3, a4] os 0 ev) true) := by
 obtain ⟨hjr, hja, hjb⟩ := hj
 obtain ⟨j1, j2, j3⟩ := j4
 have zA := numB_iff.mp (_hz ja j2)
 have zB := numB_iff.mp (_hz jb j3)
 have zM := mul_bound (_hz ja j2) (_hz jb j3)
 have e : settledS len k a1 a2 a3 a4 os (k + 1) (set4 a1 a2 a3 a4 jr (zi [a1, a2, a3, a4] ja - zi [a1, a2, a3, a4] jb)).1 (set4 a1 a2 a3 a4 jr (zi [a1, a2, a3, a4] ja - zi [a1, a2, a3, a4] jb)).2.1 (set4 a1 a2 a3 a4 jr (zi [a1, a2, a3, a4] ja - zi [a1, a2, a3, a4] jb)).2.2.1 (set4 a1 a2 a3 a4 jr (zi [a1, a2, a3, a4] ja - zi [a1, a2, a3, a4] jb)).2.2.2 os 0 = doneS len (g k) k [a1, a2, a3, a4] os 0 ev := by
  rw [settled_set hn h60 j1]
  simp [doneS, ho, calcN, hjr, hja, hjb]
 rw [← e]
 refine doIn_step b off len cap k g ra oa rc oc a1 a2 a3 a4 os ek eq ev w 218 (run_enter Tryz.func218 (by kernel_rfl) rfl) (k + 1) (set4 a1 a2 a3 a4 jr (zi [a1, a2, a3, a4] ja - zi [a1, a2, a3, a4] jb)).1 (set4 a1 a2 a3 a4 jr (zi [a1, a2, a3, a4] ja - zi [a1, a2, a3, a4] jb)).2.1 (set4 a1 a2 a3 a4 jr (zi [a1, a2, a3, a4] ja - zi [a1, a2, a3, a4] jb)).2.2.1 (set4 a1 a2 a3 a4 jr (zi [a1, a2, a3, a4] ja - zi [a1, a2, a3, a4] jb)).2.2.2 os 0 (by unfold maxLen; omega) hb hI h60 h1 h2 hk hD (by rw [ho]; exact stepOf_3) (fun o1 c1 B wx hB hO => ?_)
 rw [hjr, hja, hjb]
 refine (step_sub _ _ _ _ _ _ _ _ _ jr ja jb _ _ _ _ _ _ (by omega) (by omega) j1 j2 j3 zA.1 zA.2 zB.1 zB.2 zM.1 zM.2).mono ?_
 rintro e w' ⟨rfl, b⟩
 exact stepR_below hO b
theorem do_mul (b off len cap k : Nat) (g : Nat → I5) (ra oa : Option Addr) (rc oc : Nat) (a1 a2 a3 a4 : Int) (os : List Int) (ek eq ev : Int) (w : World) (jr ja jb : Nat) (hj : (g k).r = jr ∧ (g k).a = ja ∧ (g k).b = jb) (j4 : jr < 4 ∧ ja < 4 ∧ jb < 4) (hn : numB a1 = true ∧ numB a2 = true ∧ numB a3 = true ∧ numB a4 = true) (_hz : ∀ j, j < 4 → numB (zi [a1, a2, a3, a4] j) = true) (hl : (len : Int) ≤ 30) (hb : b < w.heap.size) (hI : InsAt w b off len g) (h60 : os.length ≤ 60) (h1 : Sl w ra [a1, a2, a3, a4]) (h2 : Sl w oa os) (hk : k < len) (hD : canB (nxK g len k [a1, a2, a3, a4] os 0) (nxP g len k [a1, a2, a3, a4] os 0) (nxW g len k [a1, a2, a3, a4] os 0) ek eq ev = true) (ho : (g k).o = 4) :
  Calls Tryz.prog 133 #[.slice (some ⟨b, off, none⟩) len cap, stV k ra 4 rc oa os.length oc 0, evV ek eq ev] w (DoneR w (doneS len (g k) k [a1, a2, a3, a4] os 0 ev) true) := by
 obtain ⟨hjr, hja, hjb⟩ := hj
 obtain ⟨j1, j2, j3⟩ := j4
 have zA := numB_iff.mp (_hz ja j2)
 have zB := numB_iff.mp (_hz jb j3)
 have zM := mul_bound (_hz ja j2) (_hz jb j3)
 have e : settledS len k a1 a2 a3 a4 os (k + 1) (set4 a1 a2 a3 a4 jr (zi [a1, a2, a3, a4] ja * zi [a1, a2, a3, a4] jb)).1 (set4 a1 a2 a3 a4 jr (zi [a1, a2, a3, a4] ja * zi [a1, a2, a3, a4] jb)).2.1 (set4 a1 a2 a3 a4 jr (zi [a1, a2, a3, a4] ja * zi [a1, a2, a3, a4] jb)).2.2.1 (set4 a1 a2 a3 a4 jr (zi [a1, a2, a3, a4] ja * zi [a1, a2, a3, a4] jb)).2.2.2 os 0 = doneS len (g k) k [a1, a2, a3, a4] os 0 ev := by
  rw [settled_set hn h60 j1]
  simp [doneS, ho, calcN, hjr, hja, hjb]
 rw [← e]
 refine doIn_step b off len cap k g ra oa rc oc a1 a2 a3 a4 os ek eq ev w 219 (run_enter Tryz.func219 (by kernel_rfl) rfl) (k + 1) (set4 a1 a2 a3 a4 jr (zi [a1, a2, a3, a4] ja * zi [a1, a2, a3, a4] jb)).1 (set4 a1 a2 a3 a4 jr (zi [a1, a2, a3, a4] ja * zi [a1, a2, a3, a4] jb)).2.1 (set4 a1 a2 a3 a4 jr (zi [a1, a2, a3, a4] ja * zi [a1, a2, a3, a4] jb)).2.2.1 (set4 a1 a2 a3 a4 jr (zi [a1, a2, a3, a4] ja * zi [a1, a2, a3, a4] jb)).2.2.2 os 0 (by unfold maxLen; omega) hb hI h60 h1 h2 hk hD (by rw [ho]; exact stepOf_4) (fun o1 c1 B wx hB hO => ?_)
 rw [hjr, hja, hjb]
 refine (step_mul _ _ _ _ _ _ _ _ _ jr ja jb _ _ _ _ _ _ (by omega) (by omega) j1 j2 j3 zA.1 zA.2 zB.1 zB.2 zM.1 zM.2).mono ?_
 rintro e w' ⟨rfl, b⟩
 exact stepR_below hO b
theorem do_less_yes (b off len cap k : Nat) (g : Nat → I5) (ra oa : Option Addr) (rc oc : Nat) (a1 a2 a3 a4 : Int) (os : List Int) (ek eq ev : Int) (w : World) (jr ja jb : Nat) (hj : (g k).r = jr ∧ (g k).a = ja ∧ (g k).b = jb) (j4 : jr < 4 ∧ ja < 4 ∧ jb < 4) (hn : numB a1 = true ∧ numB a2 = true ∧ numB a3 = true ∧ numB a4 = true) (_hz : ∀ j, j < 4 → numB (zi [a1, a2, a3, a4] j) = true) (hl : (len : Int) ≤ 30) (hb : b < w.heap.size) (hI : InsAt w b off len g) (h60 : os.length ≤ 60) (h1 : Sl w ra [a1, a2, a3, a4]) (h2 : Sl w oa os) (hk : k < len) (hD : canB (nxK g len k [a1, a2, a3, a4] os 0) (nxP g len k [a1, a2, a3, a4] os 0) (nxW g len k [a1, a2, a3, a4] os 0) ek eq ev = true) (ho : (g k).o = 5) (hlt : zi [a1, a2, a3, a4] ja < zi [a1, a2, a3, a4] jb) :
  Calls Tryz.prog 133 #[.slice (some ⟨b, off, none⟩) len cap, stV k ra 4 rc oa os.length oc 0, evV ek eq ev] w (DoneR w (doneS len (g k) k [a1, a2, a3, a4] os 0 ev) true) := by
 obtain ⟨hjr, hja, hjb⟩ := hj
 obtain ⟨j1, j2, j3⟩ := j4
 have e : settledS len k a1 a2 a3 a4 os (k + 1) (set4 a1 a2 a3 a4 jr (1)).1 (set4 a1 a2 a3 a4 jr (1)).2.1 (set4 a1 a2 a3 a4 jr (1)).2.2.1 (set4 a1 a2 a3 a4 jr (1)).2.2.2 os 0 = doneS len (g k) k [a1, a2, a3, a4] os 0 ev := by
  rw [settled_set hn h60 j1]
  simp [doneS, ho, calcN, hjr, hja, hjb, hlt]
 rw [← e]
 refine doIn_step b off len cap k g ra oa rc oc a1 a2 a3 a4 os ek eq ev w 220 (run_enter Tryz.func220 (by kernel_rfl) rfl) (k + 1) (set4 a1 a2 a3 a4 jr (1)).1 (set4 a1 a2 a3 a4 jr (1)).2.1 (set4 a1 a2 a3 a4 jr (1)).2.2.1 (set4 a1 a2 a3 a4 jr (1)).2.2.2 os 0 (by unfold maxLen; omega) hb hI h60 h1 h2 hk hD (by rw [ho]; exact stepOf_5) (fun o1 c1 B wx hB hO => ?_)
 rw [hjr, hja, hjb]
 refine (step_less_yes _ _ _ _ _ _ _ _ _ jr ja jb _ _ _ _ _ _ (by omega) (by omega) j1 j2 j3 hlt).mono ?_
 rintro e w' ⟨rfl, b⟩
 exact stepR_below hO b
theorem do_less_no (b off len cap k : Nat) (g : Nat → I5) (ra oa : Option Addr) (rc oc : Nat) (a1 a2 a3 a4 : Int) (os : List Int) (ek eq ev : Int) (w : World) (jr ja jb : Nat) (hj : (g k).r = jr ∧ (g k).a = ja ∧ (g k).b = jb) (j4 : jr < 4 ∧ ja < 4 ∧ jb < 4) (hn : numB a1 = true ∧ numB a2 = true ∧ numB a3 = true ∧ numB a4 = true) (_hz : ∀ j, j < 4 → numB (zi [a1, a2, a3, a4] j) = true) (hl : (len : Int) ≤ 30) (hb : b < w.heap.size) (hI : InsAt w b off len g) (h60 : os.length ≤ 60) (h1 : Sl w ra [a1, a2, a3, a4]) (h2 : Sl w oa os) (hk : k < len) (hD : canB (nxK g len k [a1, a2, a3, a4] os 0) (nxP g len k [a1, a2, a3, a4] os 0) (nxW g len k [a1, a2, a3, a4] os 0) ek eq ev = true) (ho : (g k).o = 5) (hlt : ¬ zi [a1, a2, a3, a4] ja < zi [a1, a2, a3, a4] jb) :
  Calls Tryz.prog 133 #[.slice (some ⟨b, off, none⟩) len cap, stV k ra 4 rc oa os.length oc 0, evV ek eq ev] w (DoneR w (doneS len (g k) k [a1, a2, a3, a4] os 0 ev) true) := by
 obtain ⟨hjr, hja, hjb⟩ := hj
 obtain ⟨j1, j2, j3⟩ := j4
 have e : settledS len k a1 a2 a3 a4 os (k + 1) (set4 a1 a2 a3 a4 jr (0)).1 (set4 a1 a2 a3 a4 jr (0)).2.1 (set4 a1 a2 a3 a4 jr (0)).2.2.1 (set4 a1 a2 a3 a4 jr (0)).2.2.2 os 0 = doneS len (g k) k [a1, a2, a3, a4] os 0 ev := by
  rw [settled_set hn h60 j1]
  simp [doneS, ho, calcN, hjr, hja, hjb, hlt]
 rw [← e]
 refine doIn_step b off len cap k g ra oa rc oc a1 a2 a3 a4 os ek eq ev w 220 (run_enter Tryz.func220 (by kernel_rfl) rfl) (k + 1) (set4 a1 a2 a3 a4 jr (0)).1 (set4 a1 a2 a3 a4 jr (0)).2.1 (set4 a1 a2 a3 a4 jr (0)).2.2.1 (set4 a1 a2 a3 a4 jr (0)).2.2.2 os 0 (by unfold maxLen; omega) hb hI h60 h1 h2 hk hD (by rw [ho]; exact stepOf_5) (fun o1 c1 B wx hB hO => ?_)
 rw [hjr, hja, hjb]
 refine (step_less_no _ _ _ _ _ _ _ _ _ jr ja jb _ _ _ _ _ _ (by omega) (by omega) j1 j2 j3 hlt).mono ?_
 rintro e w' ⟨rfl, b⟩
 exact stepR_below hO b
theorem do_send (b off len cap k : Nat) (g : Nat → I5) (ra oa : Option Addr) (rc oc : Nat) (a1 a2 a3 a4 : Int) (os : List Int) (ek eq ev : Int) (w : World) (jr ja jb : Nat) (hj : (g k).r = jr ∧ (g k).a = ja ∧ (g k).b = jb) (j4 : jr < 4 ∧ ja < 4 ∧ jb < 4) (hn : numB a1 = true ∧ numB a2 = true ∧ numB a3 = true ∧ numB a4 = true) (_hz : ∀ j, j < 4 → numB (zi [a1, a2, a3, a4] j) = true) (hl : (len : Int) ≤ 30) (hb : b < w.heap.size) (hI : InsAt w b off len g) (h60 : os.length ≤ 60) (h1 : Sl w ra [a1, a2, a3, a4]) (h2 : Sl w oa os) (hk : k < len) (hD : canB (nxK g len k [a1, a2, a3, a4] os 0) (nxP g len k [a1, a2, a3, a4] os 0) (nxW g len k [a1, a2, a3, a4] os 0) ek eq ev = true) (ho : (g k).o = 6) :
  Calls Tryz.prog 133 #[.slice (some ⟨b, off, none⟩) len cap, stV k ra 4 rc oa os.length oc 0, evV ek eq ev] w (DoneR w (doneS len (g k) k [a1, a2, a3, a4] os 0 ev) true) := by
 obtain ⟨hjr, hja, hjb⟩ := hj
 obtain ⟨j1, j2, j3⟩ := j4
 have e : settledS len k a1 a2 a3 a4 os (k + 1) a1 a2 a3 a4 os 0 = doneS len (g k) k [a1, a2, a3, a4] os 0 ev := by
  rw [settled_same hn h60]
  simp [doneS, ho]
 rw [← e]
 refine doIn_step b off len cap k g ra oa rc oc a1 a2 a3 a4 os ek eq ev w 221 (run_enter Tryz.func221 (by kernel_rfl) rfl) (k + 1) a1 a2 a3 a4 os 0 (by unfold maxLen; omega) hb hI h60 h1 h2 hk hD (by rw [ho]; exact stepOf_6) (fun o1 c1 B wx hB hO => ?_)
 rw [hjr, hja, hjb]
 refine (step_send _ _ _ _ _ _ _ _ _ jr ja jb _ _ _ _ _ _ (by omega) (by omega)).mono ?_
 rintro e w' ⟨rfl, b⟩
 exact stepR_below hO b
theorem do_take (b off len cap k : Nat) (g : Nat → I5) (ra oa : Option Addr) (rc oc : Nat) (a1 a2 a3 a4 : Int) (os : List Int) (ek eq ev : Int) (w : World) (jr ja jb : Nat) (hj : (g k).r = jr ∧ (g k).a = ja ∧ (g k).b = jb) (j4 : jr < 4 ∧ ja < 4 ∧ jb < 4) (hn : numB a1 = true ∧ numB a2 = true ∧ numB a3 = true ∧ numB a4 = true) (_hz : ∀ j, j < 4 → numB (zi [a1, a2, a3, a4] j) = true) (hl : (len : Int) ≤ 30) (hb : b < w.heap.size) (hI : InsAt w b off len g) (h60 : os.length ≤ 60) (h1 : Sl w ra [a1, a2, a3, a4]) (h2 : Sl w oa os) (hk : k < len) (hD : canB (nxK g len k [a1, a2, a3, a4] os 0) (nxP g len k [a1, a2, a3, a4] os 0) (nxW g len k [a1, a2, a3, a4] os 0) ek eq ev = true) (ho : (g k).o = 7) (hv : numB ev = true) :
  Calls Tryz.prog 133 #[.slice (some ⟨b, off, none⟩) len cap, stV k ra 4 rc oa os.length oc 0, evV ek eq ev] w (DoneR w (doneS len (g k) k [a1, a2, a3, a4] os 0 ev) true) := by
 obtain ⟨hjr, hja, hjb⟩ := hj
 obtain ⟨j1, j2, j3⟩ := j4
 have e : settledS len k a1 a2 a3 a4 os (k + 1) (set4 a1 a2 a3 a4 jr (ev)).1 (set4 a1 a2 a3 a4 jr (ev)).2.1 (set4 a1 a2 a3 a4 jr (ev)).2.2.1 (set4 a1 a2 a3 a4 jr (ev)).2.2.2 os 0 = doneS len (g k) k [a1, a2, a3, a4] os 0 ev := by
  rw [settled_set hn h60 j1, if_pos hv]
  simp [doneS, ho, hjr]
 rw [← e]
 refine doIn_step b off len cap k g ra oa rc oc a1 a2 a3 a4 os ek eq ev w 222 (run_enter Tryz.func222 (by kernel_rfl) rfl) (k + 1) (set4 a1 a2 a3 a4 jr (ev)).1 (set4 a1 a2 a3 a4 jr (ev)).2.1 (set4 a1 a2 a3 a4 jr (ev)).2.2.1 (set4 a1 a2 a3 a4 jr (ev)).2.2.2 os 0 (by unfold maxLen; omega) hb hI h60 h1 h2 hk hD (by rw [ho]; exact stepOf_7) (fun o1 c1 B wx hB hO => ?_)
 rw [hjr, hja, hjb]
 refine (step_take _ _ _ _ _ _ _ _ _ jr ja jb _ _ _ _ _ _ (by omega) (by omega) j1).mono ?_
 rintro e w' ⟨rfl, b⟩
 exact stepR_below hO b
theorem do_print (b off len cap k : Nat) (g : Nat → I5) (ra oa : Option Addr) (rc oc : Nat) (a1 a2 a3 a4 : Int) (os : List Int) (ek eq ev : Int) (w : World) (jr ja jb : Nat) (hj : (g k).r = jr ∧ (g k).a = ja ∧ (g k).b = jb) (j4 : jr < 4 ∧ ja < 4 ∧ jb < 4) (hn : numB a1 = true ∧ numB a2 = true ∧ numB a3 = true ∧ numB a4 = true) (_hz : ∀ j, j < 4 → numB (zi [a1, a2, a3, a4] j) = true) (hl : (len : Int) ≤ 30) (hb : b < w.heap.size) (hI : InsAt w b off len g) (h60 : os.length ≤ 60) (h1 : Sl w ra [a1, a2, a3, a4]) (h2 : Sl w oa os) (hk : k < len) (hD : canB (nxK g len k [a1, a2, a3, a4] os 0) (nxP g len k [a1, a2, a3, a4] os 0) (nxW g len k [a1, a2, a3, a4] os 0) ek eq ev = true) (ho : (g k).o = 8) :
  Calls Tryz.prog 133 #[.slice (some ⟨b, off, none⟩) len cap, stV k ra 4 rc oa os.length oc 0, evV ek eq ev] w (DoneR w (doneS len (g k) k [a1, a2, a3, a4] os 0 ev) true) := by
 obtain ⟨hjr, hja, hjb⟩ := hj
 obtain ⟨j1, j2, j3⟩ := j4
 have e : settledS len k a1 a2 a3 a4 os (k + 1) a1 a2 a3 a4 (os ++ [ev]) 0 = doneS len (g k) k [a1, a2, a3, a4] os 0 ev := by
  by_cases h : os.length = 60
  ·rw [settled_over (by simp; omega)]
   simp [doneS, ho, h]
  ·rw [settled_same hn (by simp; omega)]
   simp [doneS, ho, h]
 rw [← e]
 refine doIn_step b off len cap k g ra oa rc oc a1 a2 a3 a4 os ek eq ev w 223 (run_enter Tryz.func223 (by kernel_rfl) rfl) (k + 1) a1 a2 a3 a4 (os ++ [ev]) 0 (by unfold maxLen; omega) hb hI h60 h1 h2 hk hD (by rw [ho]; exact stepOf_8) (fun o1 c1 B wx hB hO => ?_)
 rw [hjr, hja, hjb]
 refine (step_print _ _ _ _ _ _ _ os _ jr ja jb _ _ _ _ _ B wx (by omega) (by omega) (by omega) hB hO).mono ?_
 rintro e w' ⟨oa', oc', rfl, p1, p2, p3, p4⟩
 have e1 : (os ++ [ev]).length = os.length + 1 := by simp
 unfold StepR
 rw [e1]
 exact ⟨oa', oc', rfl, p1, p2, p3, p4⟩
theorem do_jump (b off len cap k : Nat) (g : Nat → I5) (ra oa : Option Addr) (rc oc : Nat) (a1 a2 a3 a4 : Int) (os : List Int) (ek eq ev : Int) (w : World) (jr ja jb : Nat) (hj : (g k).r = jr ∧ (g k).a = ja ∧ (g k).b = jb) (j4 : jr < 4 ∧ ja < 4 ∧ jb < 4) (hn : numB a1 = true ∧ numB a2 = true ∧ numB a3 = true ∧ numB a4 = true) (_hz : ∀ j, j < 4 → numB (zi [a1, a2, a3, a4] j) = true) (hl : (len : Int) ≤ 30) (hb : b < w.heap.size) (hI : InsAt w b off len g) (h60 : os.length ≤ 60) (h1 : Sl w ra [a1, a2, a3, a4]) (h2 : Sl w oa os) (hk : k < len) (hD : canB (nxK g len k [a1, a2, a3, a4] os 0) (nxP g len k [a1, a2, a3, a4] os 0) (nxW g len k [a1, a2, a3, a4] os 0) ek eq ev = true) (ho : (g k).o = 9) (hb9 : belB (g k).n len = true) :
  Calls Tryz.prog 133 #[.slice (some ⟨b, off, none⟩) len cap, stV k ra 4 rc oa os.length oc 0, evV ek eq ev] w (DoneR w (doneS len (g k) k [a1, a2, a3, a4] os 0 ev) true) := by
 obtain ⟨hjr, hja, hjb⟩ := hj
 obtain ⟨j1, j2, j3⟩ := j4
 have e : settledS len k a1 a2 a3 a4 os (g k).n a1 a2 a3 a4 os 0 = doneS len (g k) k [a1, a2, a3, a4] os 0 ev := by
  rw [settled_to hn h60 hb9]
  simp [doneS, ho]
 rw [← e]
 refine doIn_step b off len cap k g ra oa rc oc a1 a2 a3 a4 os ek eq ev w 224 (run_enter Tryz.func224 (by kernel_rfl) rfl) (g k).n a1 a2 a3 a4 os 0 (by unfold maxLen; omega) hb hI h60 h1 h2 hk hD (by rw [ho]; exact stepOf_9) (fun o1 c1 B wx hB hO => ?_)
 rw [hjr, hja, hjb]
 refine (step_jump _ _ _ _ _ _ _ _ _ jr ja jb _ _ _ _ _ _ (by omega) (by omega)).mono ?_
 rintro e w' ⟨rfl, b⟩
 exact stepR_below hO b
theorem do_zero_yes (b off len cap k : Nat) (g : Nat → I5) (ra oa : Option Addr) (rc oc : Nat) (a1 a2 a3 a4 : Int) (os : List Int) (ek eq ev : Int) (w : World) (jr ja jb : Nat) (hj : (g k).r = jr ∧ (g k).a = ja ∧ (g k).b = jb) (j4 : jr < 4 ∧ ja < 4 ∧ jb < 4) (hn : numB a1 = true ∧ numB a2 = true ∧ numB a3 = true ∧ numB a4 = true) (_hz : ∀ j, j < 4 → numB (zi [a1, a2, a3, a4] j) = true) (hl : (len : Int) ≤ 30) (hb : b < w.heap.size) (hI : InsAt w b off len g) (h60 : os.length ≤ 60) (h1 : Sl w ra [a1, a2, a3, a4]) (h2 : Sl w oa os) (hk : k < len) (hD : canB (nxK g len k [a1, a2, a3, a4] os 0) (nxP g len k [a1, a2, a3, a4] os 0) (nxW g len k [a1, a2, a3, a4] os 0) ek eq ev = true) (ho : (g k).o = 10) (hb9 : belB (g k).n len = true) (hz0 : zi [a1, a2, a3, a4] ja = 0) :
  Calls Tryz.prog 133 #[.slice (some ⟨b, off, none⟩) len cap, stV k ra 4 rc oa os.length oc 0, evV ek eq ev] w (DoneR w (doneS len (g k) k [a1, a2, a3, a4] os 0 ev) true) := by
 obtain ⟨hjr, hja, hjb⟩ := hj
 obtain ⟨j1, j2, j3⟩ := j4
 have e : settledS len k a1 a2 a3 a4 os (g k).n a1 a2 a3 a4 os 0 = doneS len (g k) k [a1, a2, a3, a4] os 0 ev := by
  rw [settled_to hn h60 hb9]
  simp [doneS, ho, hja, hz0]
 rw [← e]
 refine doIn_step b off len cap k g ra oa rc oc a1 a2 a3 a4 os ek eq ev w 225 (run_enter Tryz.func225 (by kernel_rfl) rfl) (g k).n a1 a2 a3 a4 os 0 (by unfold maxLen; omega) hb hI h60 h1 h2 hk hD (by rw [ho]; exact stepOf_10) (fun o1 c1 B wx hB hO => ?_)
 rw [hjr, hja, hjb]
 refine (step_zero_yes _ _ _ _ _ _ _ _ _ jr ja jb _ _ _ _ _ _ (by omega) (by omega) j2 (by simp [hz0])).mono ?_
 rintro e w' ⟨rfl, b⟩
 exact stepR_below hO b
theorem do_zero_no (b off len cap k : Nat) (g : Nat → I5) (ra oa : Option Addr) (rc oc : Nat) (a1 a2 a3 a4 : Int) (os : List Int) (ek eq ev : Int) (w : World) (jr ja jb : Nat) (hj : (g k).r = jr ∧ (g k).a = ja ∧ (g k).b = jb) (j4 : jr < 4 ∧ ja < 4 ∧ jb < 4) (hn : numB a1 = true ∧ numB a2 = true ∧ numB a3 = true ∧ numB a4 = true) (_hz : ∀ j, j < 4 → numB (zi [a1, a2, a3, a4] j) = true) (hl : (len : Int) ≤ 30) (hb : b < w.heap.size) (hI : InsAt w b off len g) (h60 : os.length ≤ 60) (h1 : Sl w ra [a1, a2, a3, a4]) (h2 : Sl w oa os) (hk : k < len) (hD : canB (nxK g len k [a1, a2, a3, a4] os 0) (nxP g len k [a1, a2, a3, a4] os 0) (nxW g len k [a1, a2, a3, a4] os 0) ek eq ev = true) (ho : (g k).o = 10) (hz0 : ¬ zi [a1, a2, a3, a4] ja = 0) :
  Calls Tryz.prog 133 #[.slice (some ⟨b, off, none⟩) len cap, stV k ra 4 rc oa os.length oc 0, evV ek eq ev] w (DoneR w (doneS len (g k) k [a1, a2, a3, a4] os 0 ev) true) := by
 obtain ⟨hjr, hja, hjb⟩ := hj
 obtain ⟨j1, j2, j3⟩ := j4
 have e : settledS len k a1 a2 a3 a4 os (k + 1) a1 a2 a3 a4 os 0 = doneS len (g k) k [a1, a2, a3, a4] os 0 ev := by
  rw [settled_same hn h60]
  simp [doneS, ho, hja, hz0]
 rw [← e]
 refine doIn_step b off len cap k g ra oa rc oc a1 a2 a3 a4 os ek eq ev w 225 (run_enter Tryz.func225 (by kernel_rfl) rfl) (k + 1) a1 a2 a3 a4 os 0 (by unfold maxLen; omega) hb hI h60 h1 h2 hk hD (by rw [ho]; exact stepOf_10) (fun o1 c1 B wx hB hO => ?_)
 rw [hjr, hja, hjb]
 refine (step_zero_no _ _ _ _ _ _ _ _ _ jr ja jb _ _ _ _ _ _ (by omega) (by omega) j2 (by simpa using hz0)).mono ?_
 rintro e w' ⟨rfl, b⟩
 exact stepR_below hO b
theorem do_end (b off len cap k : Nat) (g : Nat → I5) (ra oa : Option Addr) (rc oc : Nat) (a1 a2 a3 a4 : Int) (os : List Int) (ek eq ev : Int) (w : World) (jr ja jb : Nat) (hj : (g k).r = jr ∧ (g k).a = ja ∧ (g k).b = jb) (j4 : jr < 4 ∧ ja < 4 ∧ jb < 4) (hn : numB a1 = true ∧ numB a2 = true ∧ numB a3 = true ∧ numB a4 = true) (_hz : ∀ j, j < 4 → numB (zi [a1, a2, a3, a4] j) = true) (hl : (len : Int) ≤ 30) (hb : b < w.heap.size) (hI : InsAt w b off len g) (h60 : os.length ≤ 60) (h1 : Sl w ra [a1, a2, a3, a4]) (h2 : Sl w oa os) (hk : k < len) (hD : canB (nxK g len k [a1, a2, a3, a4] os 0) (nxP g len k [a1, a2, a3, a4] os 0) (nxW g len k [a1, a2, a3, a4] os 0) ek eq ev = true) (ho : (g k).o = 11) :
  Calls Tryz.prog 133 #[.slice (some ⟨b, off, none⟩) len cap, stV k ra 4 rc oa os.length oc 0, evV ek eq ev] w (DoneR w (doneS len (g k) k [a1, a2, a3, a4] os 0 ev) true) := by
 obtain ⟨hjr, hja, hjb⟩ := hj
 obtain ⟨j1, j2, j3⟩ := j4
 have e : settledS len k a1 a2 a3 a4 os k a1 a2 a3 a4 os 1 = doneS len (g k) k [a1, a2, a3, a4] os 0 ev := by
  rw [settled_to hn h60 (by simp [belB]; omega)]
  simp [doneS, ho]
 rw [← e]
 refine doIn_step b off len cap k g ra oa rc oc a1 a2 a3 a4 os ek eq ev w 226 (run_enter Tryz.func226 (by kernel_rfl) rfl) k a1 a2 a3 a4 os 1 (by unfold maxLen; omega) hb hI h60 h1 h2 hk hD (by rw [ho]; exact stepOf_11) (fun o1 c1 B wx hB hO => ?_)
 rw [hjr, hja, hjb]
 refine (step_end _ _ _ _ _ _ _ _ _ jr ja jb _ _ _ _ _ _ (by omega) (by omega)).mono ?_
 rintro e w' ⟨rfl, b⟩
 exact stepR_below hO b
theorem jump_to {x : I5} {len : Nat} (h : insOkB x.o x.r x.a x.b x.n len 4 = true) (h9 : x.o = 9 ∨ x.o = 10) : belB x.n len = true := by
 simp only [insOkB, Bool.and_eq_true] at h
 have h5 := h.2
 unfold opOkB at h5
 rcases h9 with h9 | h9 <;> (rw [h9] at h5; simp [belB] at h5 ⊢; omega)
theorem doIn_any (b off len cap : Nat) (g : Nat → I5) (p code : Int) (ra oa : Option Addr) (rc oc : Nat) (rs os : List Int) (ek eq ev : Int) (w : World) (hlen : len ≤ maxLen) (hb : b < w.heap.size) (hI : InsAt w b off len g) (hr : rs.length ≤ 1048576) (ho : os.length ≤ 1048576) (h1 : Sl w ra rs) (h2 : Sl w oa os) (hP : progOkB g len 4 = true) :
  Calls Tryz.prog 133 #[.slice (some ⟨b, off, none⟩) len cap, stV p ra rs.length rc oa os.length oc code, evV ek eq ev] w (DoneR w (doS g len p rs os code ek eq ev) (doB g len p rs os code ek eq ev)) := by
 rcases Bool.eq_false_or_eq_true (doB g len p rs os code ek eq ev) with hB | hB
 case inr =>
  have hS : doS g len p rs os code ek eq ev = ⟨p, rs, os, code⟩ := by
   unfold doS
   rw [if_neg (by rw [hB]; decide)]
  rw [hB, hS]
  exact doIn_no b off len cap g p code ra oa rc oc rs os ek eq ev w hlen hb hI hr ho h1 h2 hB hP
 have hR := doB_right hB
 obtain ⟨hp, hs, rfl⟩ := right_parts hR
 obtain ⟨⟨a1, a2, a3, a4, rfl, n1, n2, n3, n4⟩, ⟨k, rfl, hk⟩, h60, -⟩ := st_parts hs
 have hS : doS g len k [a1, a2, a3, a4] os 0 ek eq ev = doneS len (g k) k [a1, a2, a3, a4] os 0 ev := by
  unfold doS
  rw [if_pos hB, Int.toNat_natCast]
 rw [hB, hS]
 have hl : (len : Int) ≤ 30 := by
  simp only [progOkB, Bool.and_eq_true] at hp
  have := hp.2.1
  simp [inB] at this
  omega
 have hins := right_ins hp hk
 obtain ⟨⟨o1, o11⟩, ⟨r0, r3⟩, ⟨m0, m3⟩, ⟨q0, q3⟩⟩ := ins_range hins
 have hn : numB a1 = true ∧ numB a2 = true ∧ numB a3 = true ∧ numB a4 = true := ⟨n1, n2, n3, n4⟩
 have hz : ∀ j, j < 4 → numB (zi [a1, a2, a3, a4] j) = true := fun j hj => by
  match j, hj with
  | 0, _ => exact n1
  | 1, _ => exact n2
  | 2, _ => exact n3
  | 3, _ => exact n4
 have hj : (g k).r = ((g k).r.toNat : Int) ∧ (g k).a = ((g k).a.toNat : Int) ∧ (g k).b = ((g k).b.toNat : Int) := ⟨by omega, by omega, by omega⟩
 have j4 : (g k).r.toNat < 4 ∧ (g k).a.toNat < 4 ∧ (g k).b.toNat < 4 := ⟨by omega, by omega, by omega⟩
 rcases opCases (g k).o with h | h | h | h | h | h | h | h | h | h | h | h
 ·omega
 ·exact do_set b off len cap k g ra oa rc oc a1 a2 a3 a4 os ek eq ev w _ _ _ hj j4 hn hz hl hb hI h60 h1 h2 hk hB h
 ·exact do_add b off len cap k g ra oa rc oc a1 a2 a3 a4 os ek eq ev w _ _ _ hj j4 hn hz hl hb hI h60 h1 h2 hk hB h
 ·exact do_sub b off len cap k g ra oa rc oc a1 a2 a3 a4 os ek eq ev w _ _ _ hj j4 hn hz hl hb hI h60 h1 h2 hk hB h
 ·exact do_mul b off len cap k g ra oa rc oc a1 a2 a3 a4 os ek eq ev w _ _ _ hj j4 hn hz hl hb hI h60 h1 h2 hk hB h
 ·by_cases hlt : zi [a1, a2, a3, a4] (g k).a.toNat < zi [a1, a2, a3, a4] (g k).b.toNat
  ·exact do_less_yes b off len cap k g ra oa rc oc a1 a2 a3 a4 os ek eq ev w _ _ _ hj j4 hn hz hl hb hI h60 h1 h2 hk hB h hlt
  ·exact do_less_no b off len cap k g ra oa rc oc a1 a2 a3 a4 os ek eq ev w _ _ _ hj j4 hn hz hl hb hI h60 h1 h2 hk hB h hlt
 ·exact do_send b off len cap k g ra oa rc oc a1 a2 a3 a4 os ek eq ev w _ _ _ hj j4 hn hz hl hb hI h60 h1 h2 hk hB h
 ·have hv : numB ev = true := by
   have hc := hB
   unfold doB nxK at hc
   rw [if_pos hR, Int.toNat_natCast, h, show evK 7 = 3 from rfl, canB_take] at hc
   simp only [Bool.and_eq_true] at hc
   exact hc.1.2
  exact do_take b off len cap k g ra oa rc oc a1 a2 a3 a4 os ek eq ev w _ _ _ hj j4 hn hz hl hb hI h60 h1 h2 hk hB h hv
 ·exact do_print b off len cap k g ra oa rc oc a1 a2 a3 a4 os ek eq ev w _ _ _ hj j4 hn hz hl hb hI h60 h1 h2 hk hB h
 ·exact do_jump b off len cap k g ra oa rc oc a1 a2 a3 a4 os ek eq ev w _ _ _ hj j4 hn hz hl hb hI h60 h1 h2 hk hB h (jump_to hins (.inl h))
 ·by_cases hz0 : zi [a1, a2, a3, a4] (g k).a.toNat = 0
  ·exact do_zero_yes b off len cap k g ra oa rc oc a1 a2 a3 a4 os ek eq ev w _ _ _ hj j4 hn hz hl hb hI h60 h1 h2 hk hB h (jump_to hins (.inr h)) hz0
  ·exact do_zero_no b off len cap k g ra oa rc oc a1 a2 a3 a4 os ek eq ev w _ _ _ hj j4 hn hz hl hb hI h60 h1 h2 hk hB h hz0
 ·exact do_end b off len cap k g ra oa rc oc a1 a2 a3 a4 os ek eq ev w _ _ _ hj j4 hn hz hl hb hI h60 h1 h2 hk hB h
theorem stOk_mk {n : Nat} {p code : Int} {rs os : List Int} (h1 : rs.length = 4) (h2 : allN rs = true) (h3 : 0 ≤ code ∧ code ≤ 2) (h4 : belB p n = true) (h5 : os.length ≤ 60) (h6 : allN os = true) : stOkB n p rs os code = true := by
 have e : inB code 0 2 = true := by simp [inB]; omega
 have e5 : ((os.length : Int) ≤ 60) := by omega
 simp [stOkB, regsB, outB, h1, h2, e, h4, e5, h6]
theorem allN_set {xs : List Int} {j : Nat} {v : Int} (h : allN xs = true) (hv : numB v = true) : allN (xs.set j v) = true := by
 unfold allN at h ⊢
 rw [List.all_eq_true] at h ⊢
 intro x hx
 rcases List.mem_or_eq_of_mem_set hx with h1 | h1
 ·exact h x h1
 ·rw [h1]; exact hv
def OkS (len : Nat) (S : S4) : Prop := stOkB len S.p S.rs S.os S.c = true
theorem goS_ok {len k : Nat} {rs os : List Int} (hk : k < len) (h1 : rs.length = 4) (h2 : allN rs = true) (h5 : os.length ≤ 60) (h6 : allN os = true) : OkS len (goS len k rs os 0) := by
 unfold OkS goS goP goC
 by_cases h : (len : Int) ≤ (k : Int) + 1
 ·simp only [h, if_true]
  exact stOk_mk h1 h2 (by omega) (by simp [belB]; omega) h5 h6
 ·simp only [h, if_false]
  exact stOk_mk h1 h2 (by omega) (by simp [belB]; omega) h5 h6
theorem doS_ok {g : Nat → I5} {len : Nat} {p : Int} {rs os : List Int} {code ek eq ev : Int} (hB : doB g len p rs os code ek eq ev = true) : OkS len (doS g len p rs os code ek eq ev) := by
 have hR := doB_right hB
 obtain ⟨hp, hs, rfl⟩ := right_parts hR
 obtain ⟨⟨a1, a2, a3, a4, rfl, n1, n2, n3, n4⟩, ⟨k, rfl, hk⟩, h60, hN⟩ := st_parts hs
 have hS : doS g len k [a1, a2, a3, a4] os 0 ek eq ev = doneS len (g k) k [a1, a2, a3, a4] os 0 ev := by
  unfold doS
  rw [if_pos hB, Int.toNat_natCast]
 rw [hS]
 have hins := right_ins hp hk
 obtain ⟨⟨o1, o11⟩, ⟨r0, r3⟩, ⟨m0, m3⟩, ⟨q0, q3⟩⟩ := ins_range hins
 have hA : allN [a1, a2, a3, a4] = true := by simp [allN, n1, n2, n3, n4]
 have hz : ∀ j, j < 4 → numB (zi [a1, a2, a3, a4] j) = true := fun j hj => by
  match j, hj with
  | 0, _ => exact n1
  | 1, _ => exact n2
  | 2, _ => exact n3
  | 3, _ => exact n4
 have hkB : belB (k : Int) len = true := by simp [belB]; omega
 have hc := hB
 unfold doB nxK nxP nxW at hc
 rw [if_pos hR, if_pos hR, if_pos hR, Int.toNat_natCast] at hc
 have v7 : (g k).o = 7 → numB ev = true := fun h => by
  rw [h, show evK 7 = 3 from rfl, canB_take] at hc
  simp only [Bool.and_eq_true] at hc
  exact hc.1.2
 have v8 : (g k).o = 8 → numB ev = true := fun h => by
  rw [h, show evK 8 = 4 from rfl, canB_other (by decide) (by decide)] at hc
  unfold evEqB at hc
  simp only [Bool.and_eq_true, beq_iff_eq] at hc
  rw [hc.2.2]
  exact hz _ (by omega)
 unfold doneS
 split
 ·exact goS_ok hk rfl hA h60 hN
 split
 ·rename_i h7
  exact goS_ok hk (by simp) (allN_set hA (v7 h7)) h60 hN
 split
 ·rename_i h8
  split
  ·exact stOk_mk rfl hA (by simp) hkB h60 hN
  ·refine goS_ok hk rfl hA (by simp; omega) ?_
   unfold allN at hN ⊢
   rw [List.all_append, hN]
   simp [v8 h8]
 split
 ·rename_i h9
  exact stOk_mk rfl hA (by simp) (jump_to hins (.inl h9)) h60 hN
 split
 ·rename_i h10
  split
  ·exact stOk_mk rfl hA (by simp) (jump_to hins (.inr h10)) h60 hN
  ·exact goS_ok hk rfl hA h60 hN
 split
 ·exact stOk_mk rfl hA (by simp) hkB h60 hN
 split
 ·rename_i hv
  exact goS_ok hk (by simp) (allN_set hA hv) h60 hN
 ·exact stOk_mk rfl hA (by simp) hkB h60 hN
def LstE (w : World) (B : Nat) (v : Value) (n : Nat) : Prop := ∃ xs, w.ownsRow B 91 3 v n xs ∧ xs.all isI = true ∧ v ≠ .slice none 0 0
theorem specStateNew_any (w : World) :
  Calls Tryz.prog 173 #[] w fun e w' => ∃ v, e = .returned v ∧ StOwn w' w.heap.size v 0 [0, 0, 0, 0] [] 0 ∧ Below w.heap.size w w' := by
 have hmk : ∀ w : World, (Instr.makeSlice 37 (.int .i64 4) (.int .i64 4)).run Tryz.prog w = .ok (.slice (some ⟨w.heap.size, 0, none⟩) 4 4) (w.alloc (.cells (madeCells #[.int .i64 0] 4) 3)) := fun w => run_make_int 4 (by omega) w
 have HM : Hid (∀ w : World, OwnI (w.alloc (.cells (madeCells #[.int .i64 0] 4) 3)) w.heap.size (.slice (some ⟨w.heap.size, 0, none⟩) 4 4) [0, 0, 0, 0]) := fun w => made_own w 4 (by omega)
 go_enter Tryz.func173, Tryz.ntmps173
 go_wp2
 have hB : w.heap.size ≤ w.heap.size + 1 := by omega
 have hM := HM.out (w.alloc (oQ2 0 (some ⟨w.heap.size + 1, 0, none⟩) 4 4 none 0 0 0))
 rw [World.size_alloc] at hM
 refine bodyPost_ret (v := stV 0 (some ⟨w.heap.size + 1, 0, none⟩) 4 4 none 0 0 0) (by simp [results, Tryz.results173, go_sem]) rfl ⟨_, rfl, ⟨_, _, rfl, hM.mono hB, World.ownsRow_nil _ _ _ _, fun k _ => by simp [Value.ownBlock]⟩, by go_grown⟩
theorem Tl.widen {w : World} {B C C' N : Nat} {p c : Int} {ra : Option Addr} {rn rc : Nat} {oa : Option Addr} {on oc : Nat} {rs os : List Int} (h : Tl w B C N p c ra rn rc oa on oc rs os) (h1 : C ≤ C') (h2 : C' ≤ w.heap.size) : Tl w B C' N p c ra rn rc oa on oc rs os :=
 ⟨h.lo, Nat.lt_of_lt_of_le h.hi h1, h2, h.box, h.own, fun k hk => Nat.lt_of_lt_of_le (h.up k hk) h1, h.ne⟩
structure Dr (w wr : World) (C W0 c len cap : Nat) (a0 : Option Addr) (Bs : Nat) (out : Value) (k : Nat) (p code : Int) (ra : Option Addr) (rc : Nat) (oa : Option Addr) (oc : Nat) (rs os : List Int) : Prop where
 ls : LstE wr w.heap.size out k
 cu : Cur wr W0 c a0 len cap
 gr : w.grownBy wr (some c)
 tl : Tl wr w.heap.size C Bs p code ra rs.length rc oa os.length oc rs os
 fz : ∀ j, wr.frozen? ⟨Bs, j, none⟩ = false
 oC : ∀ j, out.ownBlock = some j → j < C
 nB : out.ownBlock ≠ some Bs
 ap : ∀ j, hasBlock (stV p ra rs.length rc oa os.length oc code) j → out.ownBlock ≠ some j
 lr : rs.length ≤ 1048576
 lo : os.length ≤ 1048576
def EvB (w : World) (N : Nat) (k q v : Int) : Prop := EvC3 w N k q v ∧ ∀ j, w.frozen? ⟨N, j, none⟩ = false
def newS : S4 := ⟨0, [0, 0, 0, 0], [], 0⟩
def rpStep (g : Nat → I5) (len : Nat) (x : E3) (S : S4) : Option S4 := if doB g len S.p S.rs S.os S.c x.k x.q x.v = true then some (doS g len S.p S.rs S.os S.c x.k x.q x.v) else none
def rp (g : Nat → I5) (len : Nat) (h : Nat → E3) : Nat → Option S4
 | 0 => some newS
 | k + 1 => (rp g len h k).bind (rpStep g len (h k))
theorem rp_none {g : Nat → I5} {len : Nat} {h : Nat → E3} {k : Nat} (hk : rp g len h k = none) : ∀ d, rp g len h (k + d) = none
 | 0 => hk
 | d + 1 => by
  have := rp_none hk d
  show (rp g len h (k + d)).bind _ = none
  rw [this]
  rfl
theorem rp_over {g : Nat → I5} {len : Nat} {h : Nat → E3} {k m : Nat} (hk : rp g len h k = none) (hm : k ≤ m) : rp g len h m = none := by
 have := rp_none hk (m - k)
 rwa [show k + (m - k) = m by omega] at this
theorem rp_yes {g : Nat → I5} {len : Nat} {h : Nat → E3} {k : Nat} {S : S4} (hk : rp g len h k = some S) (hd : doB g len S.p S.rs S.os S.c (h k).k (h k).q (h k).v = true) : rp g len h (k + 1) = some (doS g len S.p S.rs S.os S.c (h k).k (h k).q (h k).v) := by
 show (rp g len h k).bind _ = _
 rw [hk]
 show rpStep g len (h k) S = _
 unfold rpStep
 rw [if_pos hd]
theorem rp_no {g : Nat → I5} {len : Nat} {h : Nat → E3} {k : Nat} {S : S4} (hk : rp g len h k = some S) (hd : doB g len S.p S.rs S.os S.c (h k).k (h k).q (h k).v = false) : rp g len h (k + 1) = none := by
 show (rp g len h k).bind _ = _
 rw [hk]
 show rpStep g len (h k) S = _
 unfold rpStep
 rw [if_neg (by rw [hd]; decide)]
def resS (o : Option S4) : S4 := o.getD ⟨0, [], [], 0⟩
theorem prog_len {g : Nat → I5} {len : Nat} (hp : progOkB g len 4 = true) : 1 ≤ len ∧ len ≤ 30 := by
 simp only [progOkB, Bool.and_eq_true] at hp
 have := hp.2.1
 simp [inB] at this
 omega
theorem newS_ok {g : Nat → I5} {len : Nat} (hp : progOkB g len 4 = true) : OkS len newS := by
 have := prog_len hp
 exact stOk_mk rfl (by simp [newS, allN, numB, inB]) (by simp [newS]) (by simp [belB, newS]; omega) (by simp [newS]) rfl
theorem right_of {g : Nat → I5} {len : Nat} {S : S4} (hp : progOkB g len 4 = true) (hS : OkS len S) (hc : S.c = 0) : rightB g len S.p S.rs S.os S.c = true := by
 unfold OkS at hS
 rw [rightB, hp, hS, hc]
 rfl
theorem doB_code {g : Nat → I5} {len : Nat} {S : S4} {k q v : Int} (hc : S.c ≠ 0) : doB g len S.p S.rs S.os S.c k q v = false := by
 rcases Bool.eq_false_or_eq_true (doB g len S.p S.rs S.os S.c k q v) with h | h
 ·obtain ⟨-, -, h0⟩ := right_parts (doB_right h)
  exact absurd h0 hc
 ·exact h
theorem OkS.len {n : Nat} {S : S4} (h : OkS n S) : S.rs.length = 4 ∧ S.os.length ≤ 60 := by
 obtain ⟨⟨a, b, c, d, e, -⟩, -, h60, -⟩ := st_parts h
 exact ⟨by rw [e]; rfl, h60⟩
open Go.Sort
noncomputable def qB (p : Prop) : Bool := @decide p (Classical.propDecidable _)
theorem qB_true {p : Prop} (h : p) : qB p = true := by simp [qB, h]
theorem qB_false {p : Prop} (h : ¬ p) : qB p = false := by simp [qB, h]
structure HisE (w : World) (ha : Option Addr) (hA : Nat → Option Addr) (hC : Nat → Nat) (y : Hs) : Prop where
 row : RowS w ha y.n fun i => .slice (hA i) (y.l i) (hC i)
 ev : ∀ i, i < y.n → EvL w (hA i) (y.l i) (y.e i)
theorem HisE.below {w w' : World} {ha : Option Addr} {hA : Nat → Option Addr} {hC : Nat → Nat} {y : Hs} (h : HisE w ha hA hC y) (hb : Below w.heap.size w w') : HisE w' ha hA hC y := ⟨h.row.below hb, fun i hi => (h.ev i hi).below hb⟩
structure HisP (w : World) (X : Nat) (ha : Option Addr) (hc : Nat) (y : Hs) (d : Nat → Nat) : Prop where
 c4 : w.cell? ⟨X, 4, none⟩ = some (.slice ha y.n hc)
 pt : ∀ i, i < 4 → w.cell? ⟨X, 5 + i, none⟩ = some (.int .i64 (d i))
 op : ∀ a b, a < 4 → b < 4 → w.cell? ⟨X, 9 + a * 4 + b, none⟩ = some (.int .i64 (y.opn d a b))
 fr : ∀ j, w.frozen? ⟨X, j, none⟩ = false
theorem HisP.lt {w : World} {X : Nat} {ha : Option Addr} {hc : Nat} {y : Hs} {d : Nat → Nat} (h : HisP w X ha hc y d) : X < w.heap.size := World.block_lt_of_cell? w _ h.c4
theorem HisP.blk {w w' : World} {X : Nat} {ha : Option Addr} {hc : Nat} {y : Hs} {d : Nat → Nat} (h : HisP w X ha hc y d) (hb : w'.heap[X]? = w.heap[X]?) : HisP w' X ha hc y d :=
 ⟨(World.cell?_of_block hb).trans h.c4, fun i hi => (World.cell?_of_block hb).trans (h.pt i hi), fun a b h1 h2 => (World.cell?_of_block hb).trans (h.op a b h1 h2), fun j => (World.frozen?_of_block hb).trans (h.fr j)⟩
theorem HisP.below {w w' : World} {X : Nat} {ha : Option Addr} {hc : Nat} {y : Hs} {d : Nat → Nat} (h : HisP w X ha hc y d) (hb : Below w.heap.size w w') : HisP w' X ha hc y d := h.blk (hb.block X h.lt)
theorem cell_allocs {w : World} {a : Addr} {v : Value} (h : w.cell? a = some v) (o : Obj) : (w.alloc o).cell? a = some v := (World.cell?_alloc_lt w o a (World.block_lt_of_cell? w _ h)).trans h
theorem canPut_any (X : Nat) (ha : Option Addr) (hc : Nat) (hA : Nat → Option Addr) (hC : Nat → Nat) (y : Hs) (d : Nat → Nat) (k : Nat) (w : World) (hE : HisE w ha hA hC y) (hP : HisP w X ha hc y d) (h4 : y.n ≤ 4) (hk : k < y.n) (hp : y.Peers) (hl : ∀ i, i < y.n → y.l i ≤ 200) (hd : ∀ i, d i ≤ y.l i) :
  Calls Tryz.prog 172 #[.pointer (some ⟨X, 4, none⟩), .int .i64 k] w fun e w' => e = .returned (.bool (qB (y.Can d k))) ∧ Below w.heap.size w w' := by
 have HE : Hid (HisE w ha hA hC y) := hE
 have HP : Hid (HisP w X ha hc y d) := hP
 have HCan : Hid (y.Can d k ↔ d k < y.l k ∧ ((y.e k (d k)).k = 3 → 0 < y.opn d (y.e k (d k)).q.toNat k)) := Hs.can_iff hp hk
 have hk4 : (k : Int) < 4 := by omega
 have hk' : (k : Int) < (y.n : Int) := by omega
 have hl200 : (y.l k : Int) ≤ 200 := by have := hl k hk; omega
 have hdk : (d k : Int) ≤ (y.l k : Int) := by have := hd k; omega
 obtain ⟨bh, oh, eh, ch⟩ := hE.row.at hk
 obtain ⟨c4, pt, op, -⟩ := hP
 have pk := pt k (by omega)
 rw [eh] at c4
 clear hE
 by_cases he : d k = y.l k
 ·have HN : Hid (qB (y.Can d k) = false) := qB_false fun h => by have := h.1; omega
  rw [he] at pk
  clear op pt
  go_enter Tryz.func172, Tryz.ntmps172
  go_wp2_with fail
  go_quiet (fail)
  go_wp2
  go_ret
  rw [HN.out]
  exact ⟨rfl, below_drewN (Below.refl _ _) _⟩
 ·have hlt : d k < y.l k := by have := hd k; omega
  have hlt' : (d k : Int) < (y.l k : Int) := by omega
  have hne : ((d k : Int) == (y.l k : Int)) = false := by
   have : ¬ (d k : Int) = (y.l k : Int) := by omega
   simpa using this
  obtain ⟨b, off, ea, zb, e0, e1, e2⟩ := (HE.out.ev k hk).at hlt
  rw [ea] at ch
  have n1 : w.heap.size ≠ X := by have := HP.out.lt; omega
  have n2 : w.heap.size ≠ b := by omega
  have n3 : w.heap.size ≠ bh := by have := World.block_lt_of_cell? w _ ch; simp at this; omega
  clear zb
  have hq := hp k hk (d k) hlt
  obtain ⟨q, hqe⟩ : ∃ q : Nat, (y.e k (d k)).q = (q : Int) := ⟨(y.e k (d k)).q.toNat, by omega⟩
  have hq4 : (q : Int) < 4 := by omega
  have oq := op q k (by omega) (by omega)
  rw [hqe] at e1
  rcases Bool.eq_false_or_eq_true ((y.e k (d k)).k != 3) with t | t
  ·have HN : Hid (qB (y.Can d k) = true) := qB_true (HCan.out.2 ⟨hlt, fun h => by rw [h] at t; cases t⟩)
   clear op pt hq hqe oq HCan
   generalize (y.e k (d k)).k = kd at *
   generalize (y.e k (d k)).v = vd at *
   go_enter Tryz.func172, Tryz.ntmps172
   go_wp2_with fail
   go_quiet (fail)
   go_wp2_with fail
   have BD : Hid (Below w.heap.size w (w.drewN nq)) := below_drewN (Below.refl _ _) _
   replace n1 : (w.drewN nq).heap.size ≠ X := n1
   replace n2 : (w.drewN nq).heap.size ≠ b := n2
   replace n3 : (w.drewN nq).heap.size ≠ bh := n3
   replace c4 : (w.drewN nq).cell? ⟨X, 4, none⟩ = _ := c4
   replace pk : (w.drewN nq).cell? ⟨X, 5 + k, none⟩ = _ := pk
   replace ch : (w.drewN nq).cell? ⟨bh, oh + k, none⟩ = _ := ch
   replace e0 : (w.drewN nq).cell? ⟨b, off + d k * 3, none⟩ = _ := e0
   replace e1 : (w.drewN nq).cell? ⟨b, off + d k * 3 + 1, none⟩ = _ := e1
   replace e2 : (w.drewN nq).cell? ⟨b, off + d k * 3 + 2, none⟩ = _ := e2
   generalize w.drewN nq = wd at *
   have c4' := cell_allocs c4
   have pk' := cell_allocs pk
   have ch' := cell_allocs ch
   have e0' := cell_allocs e0
   have e1' := cell_allocs e1
   have e2' := cell_allocs e2
   go_region
   all_goals
    go_wp2_with fail
    go_quiet (fail)
    go_wp2
    go_ret
    rw [HN.out]
    exact ⟨rfl, below_drewN (BD.out.trans ((below_alloc _ _).mono BD.out.size)).drew _⟩
  ·have hk3 : (y.e k (d k)).k = 3 := by simpa using t
   have HN : Hid (qB (y.Can d k) = decide (0 < y.opn d q k)) := by
    show qB (y.Can d k) = decide (0 < y.opn d q k)
    have e : (y.e k (d k)).q.toNat = q := by omega
    by_cases h0 : 0 < y.opn d q k
    ·rw [decide_eq_true h0]
     exact qB_true (HCan.out.2 ⟨hlt, fun _ => by rw [e]; exact h0⟩)
    ·rw [decide_eq_false h0]
     refine qB_false fun h => h0 ?_
     have := (HCan.out.1 h).2 hk3
     rwa [e] at this
   rw [hk3] at e0
   clear op pt hq hqe HCan t hk3
   generalize (y.e k (d k)).v = vd at *
   generalize y.opn d q k = on at *
   go_enter Tryz.func172, Tryz.ntmps172
   go_wp2_with fail
   go_quiet (fail)
   go_wp2_with fail
   have BD : Hid (Below w.heap.size w (w.drewN nq)) := below_drewN (Below.refl _ _) _
   replace n1 : (w.drewN nq).heap.size ≠ X := n1
   replace n2 : (w.drewN nq).heap.size ≠ b := n2
   replace n3 : (w.drewN nq).heap.size ≠ bh := n3
   replace c4 : (w.drewN nq).cell? ⟨X, 4, none⟩ = _ := c4
   replace pk : (w.drewN nq).cell? ⟨X, 5 + k, none⟩ = _ := pk
   replace ch : (w.drewN nq).cell? ⟨bh, oh + k, none⟩ = _ := ch
   replace e0 : (w.drewN nq).cell? ⟨b, off + d k * 3, none⟩ = _ := e0
   replace e1 : (w.drewN nq).cell? ⟨b, off + d k * 3 + 1, none⟩ = _ := e1
   replace e2 : (w.drewN nq).cell? ⟨b, off + d k * 3 + 2, none⟩ = _ := e2
   replace oq : (w.drewN nq).cell? ⟨X, 9 + q * 4 + k, none⟩ = _ := oq
   generalize w.drewN nq = wd at *
   have c4' := cell_allocs c4
   have pk' := cell_allocs pk
   have ch' := cell_allocs ch
   have e0' := cell_allocs e0
   have e1' := cell_allocs e1
   have e2' := cell_allocs e2
   have oq' := cell_allocs oq
   go_region
   all_goals
    go_wp2_with fail
    go_quiet (fail)
    go_wp2
    go_ret
    rw [HN.out]
    exact ⟨rfl, below_drewN (BD.out.trans ((below_alloc _ _).mono BD.out.size)).drew _⟩
theorem HisP.put {w w' : World} {X : Nat} {ha : Option Addr} {hc : Nat} {y : Hs} {d : Nat → Nat} {k : Nat} (h : HisP w X ha hc y d) (c4 : w'.cell? ⟨X, 4, none⟩ = w.cell? ⟨X, 4, none⟩) (pt : ∀ i, i < 4 → w'.cell? ⟨X, 5 + i, none⟩ = if i = k then some (.int .i64 (d k + 1 : Nat)) else w.cell? ⟨X, 5 + i, none⟩)
  (op : ∀ a b, a < 4 → b < 4 → w'.cell? ⟨X, 9 + a * 4 + b, none⟩ = some (.int .i64 (y.opn (up d k) a b))) (fr : ∀ j, w'.frozen? ⟨X, j, none⟩ = false) : HisP w' X ha hc y (up d k) := by
 refine ⟨c4.trans h.c4, fun i hi => ?_, op, fr⟩
 rw [pt i hi]
 by_cases e : i = k
 ·subst e
  rw [if_pos rfl, up_same]
 ·rw [if_neg e, up_other e]
  exact h.pt i hi
end Go.Proofs.YtbleeedbiipfnaaGreatDoor
