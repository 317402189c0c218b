/- The walks of the model's l2Fault and l2Go. -/
import Derived.Test.YtnfdnnmddadmkaaGreatDoorNc0
import Derived.Test.YtnfdnnmddadmkaaGreatDoorNc8
import Derived.Test.YtnfdnnmddadmkaaGreatDoorNc12
import Derived.Test.YtnfdnnmddadmkaaGreatDoorNc10
namespace Go.Proofs.YtnfdnnmddadmkaaGreatDoor
set_option maxRecDepth 100000
set_option maxHeartbeats 1000000
open Go.RowKit
def rightB (g : Nat → I5) (len : Nat) (p : Int) (rs os : List Int) (code : Int) : Bool := progOkB g len 4 && stOkB len p rs os code && (code == 0)
def nxK (g : Nat → I5) (len : Nat) (p : Int) (rs os : List Int) (code : Int) : Int := if rightB g len p rs os code = true then evK (g p.toNat).o else 0
def nxP (g : Nat → I5) (len : Nat) (p : Int) (rs os : List Int) (code : Int) : Int := if rightB g len p rs os code = true then evP (g p.toNat).o (g p.toNat).n else 0
def nxW (g : Nat → I5) (len : Nat) (p : Int) (rs os : List Int) (code : Int) : Int := if rightB g len p rs os code = true then evW (g p.toNat).o (g p.toNat).a rs else 0
theorem next_wrong {g : Nat → I5} {len : Nat} {p : Int} {rs os : List Int} {code : Int} (h : rightB g len p rs os code = false) : evV (nxK g len p rs os code) (nxP g len p rs os code) (nxW g len p rs os code) = evV 0 0 0 := by
 simp [nxK, nxP, nxW, h]
theorem next_right {g : Nat → I5} {len k : Nat} {rs os : List Int} {code : Int} (h : rightB g len (k : Int) rs os code = true) : evV (nxK g len k rs os code) (nxP g len k rs os code) (nxW g len k rs os code) = evV (evK (g k).o) (evP (g k).o (g k).n) (evW (g k).o (g k).a rs) := by
 simp [nxK, nxP, nxW, h]
theorem ret_ev {a b : Value} (h : a = b) : Ending.returned a = .returned b := by rw [h]
theorem right_ins {g : Nat → I5} {len : Nat} {procs : Int} (h : progOkB g len procs = true) {k : Nat} (hk : k < len) : insOkB (g k).o (g k).r (g k).a (g k).b (g k).n len procs = true := by
 simp only [progOkB, Bool.and_eq_true] at h
 have h1 := h.1
 rw [allOk, List.all_eq_true] at h1
 exact h1 k (List.mem_range.2 hk)
theorem ins_range {o r a b n places procs : Int} (h : insOkB o r a b n places procs = true) : (1 ≤ o ∧ o ≤ 11) ∧ (0 ≤ r ∧ r ≤ 3) ∧ (0 ≤ a ∧ a ≤ 3) ∧ (0 ≤ b ∧ b ≤ 3) := by
 simp only [insOkB, Bool.and_eq_true] at h
 obtain ⟨⟨⟨⟨h1, h2⟩, h3⟩, _⟩, h5⟩ := h
 simp only [inB, decide_eq_true_eq] at h1 h2 h3
 refine ⟨?_, h1, h2, h3⟩
 apply Classical.byContradiction
 intro hn
 rw [opOkB_none _ _ _ _ _ _ _ (by omega)] at h5
 cases h5
theorem right_parts {g : Nat → I5} {len : Nat} {p : Int} {rs os : List Int} {code : Int} (h : rightB g len p rs os code = true) : progOkB g len 4 = true ∧ stOkB len p rs os code = true ∧ code = 0 := by
 simp only [rightB, Bool.and_eq_true, beq_iff_eq] at h
 exact ⟨h.1.1, h.1.2, h.2⟩
theorem st_parts {n : Nat} {p : Int} {rs os : List Int} {code : Int} (h : stOkB n p rs os code = true) : (∃ r0 r1 r2 r3, rs = [r0, r1, r2, r3] ∧ numB r0 = true ∧ numB r1 = true ∧ numB r2 = true ∧ numB r3 = true) ∧ (∃ k : Nat, p = k ∧ k < n) ∧ os.length ≤ 60 ∧ allN os = true := by
 simp only [stOkB, regsB, outB, Bool.and_eq_true, beq_iff_eq, decide_eq_true_eq] at h
 obtain ⟨⟨⟨⟨h4, hr⟩, _⟩, hp⟩, h60, ho⟩ := h
 have h4' : rs.length = 4 := by omega
 refine ⟨?_, ?_, by omega, ho⟩
 ·match rs, h4' with
  | [r0, r1, r2, r3], _ =>
   simp only [allN, List.all_cons, List.all_nil, Bool.and_eq_true, and_true] at hr
   exact ⟨r0, r1, r2, r3, rfl, hr⟩
 ·simp only [belB, decide_eq_true_eq] at hp
  obtain ⟨k, rfl⟩ := Int.eq_ofNat_of_zero_le hp.1
  exact ⟨k, rfl, by omega⟩
theorem nextIn_wrong (b off len cap : Nat) (g : Nat → I5) (p code : Int) (ra oa : Option Addr) (rc oc : Nat) (rs os : List Int) (w : World) (ho : os.length ≤ 1048576) (h1 : Sl w ra rs) (h2 : Sl w oa os) (t2 : progOkB g len 4 = true) (hw : rightB g len p rs os code = false) :
  Calls Tryz.prog 158 #[.slice (some ⟨b, off, none⟩) len cap, stV p ra rs.length rc oa os.length oc code] w fun e w' => e = .returned (evV 0 0 0) ∧ Below w.heap.size w w' := by
 have H1 : Hid (Sl w ra rs) := h1
 have H2 : Hid (Sl w oa os) := h2
 clear h1 h2
 rcases Bool.eq_false_or_eq_true (code != 0) with t0 | t0
 ·clear hw t2
  go_enter Tryz.func158, Tryz.ntmps158
  go_wp2
  refine bodyPost_ret (v := evV 0 0 0) (by simp [results, Tryz.results158, go_sem]) rfl ⟨rfl, ?_⟩
  go_grown
 have hc : (code == 0) = true := by simpa using t0
 have t1 : stOkB len p rs os code = false := by
  simp only [rightB, t2, hc, Bool.and_true, Bool.true_and] at hw
  exact hw
 clear hw hc t2
 go_enter Tryz.func158, Tryz.ntmps158
 go_wp2_with fail
 refine (implStateOk_any _ _ _ _ _ _ _ _ _ rs os _ ho (H1.out.below (by go_grown)) (H2.out.below (by go_grown))).mono ?_
 rintro e w1 ⟨rfl, b1⟩
 have B1 : Hid (Below w.heap.size w w1) := below_up (by go_grown) b1 (by simp; omega)
 obtain ⟨hc1, hf1⟩ := bcell b1
 clear b1
 go_wp2
 refine bodyPost_ret (v := evV 0 0 0) (by simp [results, Tryz.results158, go_sem, hc1]) rfl ⟨rfl, ?_⟩
 have := B1.out
 go_grown
def calcN (o a b n : Int) : Int := if o = 1 then n else if o = 2 then a + b else if o = 3 then a - b else if o = 4 then a * b else if a < b then 1 else 0
def goP (len : Nat) (p : Int) : Int := if (len : Int) ≤ p + 1 then p else p + 1
def goC (len : Nat) (p code : Int) : Int := if (len : Int) ≤ p + 1 then 2 else code
structure S4 where
 p : Int
 rs : List Int
 os : List Int
 c : Int
def goS (len : Nat) (p : Int) (rs os : List Int) (code : Int) : S4 := ⟨goP len p, rs, os, goC len p code⟩
def doneS (len : Nat) (x : I5) (p : Int) (rs os : List Int) (code v : Int) : S4 :=
 if x.o = 6 then goS len p rs os code
 else if x.o = 7 then goS len p (rs.set x.r.toNat v) os code
 else if x.o = 8 then (if os.length = 60 then ⟨p, rs, os, 2⟩ else goS len p rs (os ++ [v]) code)
 else if x.o = 9 then ⟨x.n, rs, os, code⟩
 else if x.o = 10 then (if zi rs x.a.toNat = 0 then ⟨x.n, rs, os, code⟩ else goS len p rs os code)
 else if x.o = 11 then ⟨p, rs, os, 1⟩
 else (if numB (calcN x.o (zi rs x.a.toNat) (zi rs x.b.toNat) x.n) = true then goS len p (rs.set x.r.toNat (calcN x.o (zi rs x.a.toNat) (zi rs x.b.toNat) x.n)) os code else ⟨p, rs, os, 2⟩)
def canB (nk np nv k p v : Int) : Bool :=
 if nk = 3 then (k == 3) && numB v && (if np = 9 then belB p 4 else p == np) else (nk != 0) && (k == nk && (p == np && v == nv))
def doB (g : Nat → I5) (len : Nat) (p : Int) (rs os : List Int) (code k q v : Int) : Bool := canB (nxK g len p rs os code) (nxP g len p rs os code) (nxW g len p rs os code) k q v
def doS (g : Nat → I5) (len : Nat) (p : Int) (rs os : List Int) (code k q v : Int) : S4 :=
 if doB g len p rs os code k q v = true then doneS len (g p.toNat) p rs os code v else ⟨p, rs, os, code⟩
theorem doB_right {g : Nat → I5} {len : Nat} {p : Int} {rs os : List Int} {code k q v : Int} (h : doB g len p rs os code k q v = true) : rightB g len p rs os code = true := by
 apply Classical.byContradiction
 intro hn
 have hn' : rightB g len p rs os code = false := by simpa using hn
 simp [doB, canB, nxK, hn'] at h
theorem mul_bound {a b : Int} (ha : numB a = true) (hb : numB b = true) : -1000000000000000000 ≤ a * b ∧ a * b ≤ 1000000000000000000 := by
 simp only [numB, inB, decide_eq_true_eq] at ha hb
 have h1 : (a.natAbs * b.natAbs : Nat) ≤ 1000000000 * 1000000000 := Nat.mul_le_mul (by omega) (by omega)
 have h2 : (a * b).natAbs = a.natAbs * b.natAbs := Int.natAbs_mul a b
 omega
theorem numB_iff {a : Int} : numB a = true ↔ -1000000000 ≤ a ∧ a ≤ 1000000000 := by simp [numB, inB]
theorem grown_any {w w' : World} (h : w.grownBy w' none) (row : Option Nat) : w.grownBy w' row := ⟨h.os, h.tape, h.output, h.size, fun k hk _ => h.block k hk (by simp)⟩
theorem OwnI.drewN {w : World} {B : Nat} {v : Value} {xs : List Int} (h : OwnI w B v xs) (n : Nat) : OwnI (w.drewN n) B v xs := h
theorem OwnI.setOther {w : World} {B : Nat} {v : Value} {xs : List Int} (h : OwnI w B v xs) {p : Addr} (hne : v.ownBlock ≠ some p.block) (u : Value) : OwnI (w.setCell p u) B v xs :=
 h.kept (row := some p.block) (grown_setCell (World.grownBy.refl w _) (.inl rfl) u) (.inr hne)
theorem below_alloc (w : World) (o : Obj) : Below w.heap.size w (w.alloc o) := (Below.refl _ _).alloc (Nat.le_refl _) o
theorem l2Fault_any (p code : Int) (ra oa : Option Addr) (rn rc on oc : Nat) (w : World) :
  Calls Tryz.prog 172 #[stV p ra rn rc oa on oc code] w fun e w' => e = .returned (stV p ra rn rc oa on oc 2) ∧ Below w.heap.size w w' := by
 go_enter Tryz.func172, Tryz.ntmps172
 go_wp2
 refine bodyPost_ret (v := stV p ra rn rc oa on oc 2) (by simp [results, Tryz.results172, go_sem]) rfl ⟨rfl, ?_⟩
 go_grown
theorem l2Go_any (la : Option Addr) (len lc : Nat) (p code : Int) (ra oa : Option Addr) (rn rc on oc : Nat) (w : World) (h0 : 0 ≤ p) (h1 : p ≤ 1000000000) :
  Calls Tryz.prog 171 #[.slice la len lc, stV p ra rn rc oa on oc code] w fun e w' => e = .returned (stV (goP len p) ra rn rc oa on oc (goC len p code)) ∧ Below w.heap.size w w' := by
 by_cases hp : (len : Int) ≤ p + 1
 ·have e1 : goP len p = p := if_pos hp
  have e2 : goC len p code = 2 := if_pos hp
  rw [e1, e2]
  clear e1 e2
  go_enter Tryz.func171, Tryz.ntmps171
  go_wp2_with fail
  refine (l2Fault_any _ _ _ _ _ _ _ _ _).mono ?_
  rintro e w1 ⟨rfl, b1⟩
  have B1 : Hid (Below w.heap.size w w1) := below_up (by go_grown) b1 (by simp; omega)
  obtain ⟨hc1, hf1⟩ := bcell b1
  clear b1
  go_wp2
  refine bodyPost_ret (v := stV p ra rn rc oa on oc 2) (by simp [results, Tryz.results171, go_sem, hc1]) rfl ⟨rfl, ?_⟩
  have := B1.out
  go_grown
 ·have e1 : goP len p = p + 1 := if_neg hp
  have e2 : goC len p code = code := if_neg hp
  rw [e1, e2]
  clear e1 e2
  go_enter Tryz.func171, Tryz.ntmps171
  go_wp2
  refine bodyPost_ret (v := stV (p + 1) ra rn rc oa on oc code) (by simp [results, Tryz.results171, go_sem]) rfl ⟨rfl, ?_⟩
  go_grown
end Go.Proofs.YtnfdnnmddadmkaaGreatDoor
