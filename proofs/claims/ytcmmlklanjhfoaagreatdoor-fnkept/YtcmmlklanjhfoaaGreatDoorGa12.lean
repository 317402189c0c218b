/- The walks of the model's l2Fault and l2Go. -/
import Derived.Test.YtcmmlklanjhfoaaGreatDoorGa9
import Derived.Test.YtcmmlklanjhfoaaGreatDoorGa11
namespace Go.Proofs.YtcmmlklanjhfoaaGreatDoor
open Go.RowKit

/-- What a local place gives its register. -/
def calcN (o a b n : Int) : Int := if o = 1 then n else if o = 2 then a + b else if o = 3 then a - b else if o = 4 then a * b else if a < b then 1 else 0
def goP (len : Nat) (p : Int) : Int := if (len : Int) ≤ p + 1 then p else p + 1
def goC (len : Nat) (p code : Int) : Int := if (len : Int) ≤ p + 1 then 2 else code

structure S4 where
  p : Int
  rs : List Int
  os : List Int
  c : Int

def goS (len : Nat) (p : Int) (rs os : List Int) (code : Int) : S4 := ⟨goP len p, rs, os, goC len p code⟩

/-- The state behind an event that comes, at the place x, with what comes. -/
def doneS (len : Nat) (x : I5) (p : Int) (rs os : List Int) (code v : Int) : S4 :=
  if x.o = 6 then goS len p rs os code
  else if x.o = 7 then goS len p (rs.set x.r.toNat v) os code
  else if x.o = 8 then (if os.length = 60 then ⟨p, rs, os, 2⟩ else goS len p rs (os ++ [v]) code)
  else if x.o = 9 then ⟨x.n, rs, os, code⟩
  else if x.o = 10 then (if zi rs x.a.toNat = 0 then ⟨x.n, rs, os, code⟩ else goS len p rs os code)
  else if x.o = 11 then ⟨p, rs, os, 1⟩
  else (if numB (calcN x.o (zi rs x.a.toNat) (zi rs x.b.toNat) x.n) = true then goS len p (rs.set x.r.toNat (calcN x.o (zi rs x.a.toNat) (zi rs x.b.toNat) x.n)) os code else ⟨p, rs, os, 2⟩)

/-- Whether e can come where next is what comes. -/
def canB (nk np nv k p v : Int) : Bool :=
  if nk = 3 then (k == 3) && numB v && (if np = 9 then belB p 4 else p == np) else (nk != 0) && (k == nk && (p == np && v == nv))

def doB (g : Nat → I5) (len : Nat) (p : Int) (rs os : List Int) (code k q v : Int) : Bool := canB (nxK g len p rs os code) (nxP g len p rs os code) (nxW g len p rs os code) k q v
def doS (g : Nat → I5) (len : Nat) (p : Int) (rs os : List Int) (code k q v : Int) : S4 :=
  if doB g len p rs os code k q v = true then doneS len (g p.toNat) p rs os code v else ⟨p, rs, os, code⟩

theorem doB_right {g : Nat → I5} {len : Nat} {p : Int} {rs os : List Int} {code k q v : Int} (h : doB g len p rs os code k q v = true) : rightB g len p rs os code = true := by
  apply Classical.byContradiction
  intro hn
  have hn' : rightB g len p rs os code = false := by simpa using hn
  simp [doB, canB, nxK, hn'] at h

theorem mul_bound {a b : Int} (ha : numB a = true) (hb : numB b = true) : -1000000000000000000 ≤ a * b ∧ a * b ≤ 1000000000000000000 := by
  simp only [numB, inB, decide_eq_true_eq] at ha hb
  have h1 : (a.natAbs * b.natAbs : Nat) ≤ 1000000000 * 1000000000 := Nat.mul_le_mul (by omega) (by omega)
  have h2 : (a * b).natAbs = a.natAbs * b.natAbs := Int.natAbs_mul a b
  omega

theorem numB_iff {a : Int} : numB a = true ↔ -1000000000 ≤ a ∧ a ≤ 1000000000 := by simp [numB, inB]

end Go.Proofs.YtcmmlklanjhfoaaGreatDoor

namespace Go.Proofs.YtcmmlklanjhfoaaGreatDoor
open Go.RowKit

theorem grown_any {w w' : World} (h : w.grownBy w' none) (row : Option Nat) : w.grownBy w' row := ⟨h.os, h.tape, h.output, h.size, fun k hk _ => h.block k hk (by simp)⟩
theorem OwnI.drewN {w : World} {B : Nat} {v : Value} {xs : List Int} (h : OwnI w B v xs) (n : Nat) : OwnI (w.drewN n) B v xs := h
theorem OwnI.setOther {w : World} {B : Nat} {v : Value} {xs : List Int} (h : OwnI w B v xs) {p : Addr} (hne : v.ownBlock ≠ some p.block) (u : Value) : OwnI (w.setCell p u) B v xs :=
  h.kept (row := some p.block) (grown_setCell (World.grownBy.refl w _) (.inl rfl) u) (.inr hne)
theorem below_alloc (w : World) (o : Obj) : Below w.heap.size w (w.alloc o) := (Below.refl _ _).alloc (Nat.le_refl _) o

set_option maxHeartbeats 400000 in
theorem l2Fault_any (p code : Int) (ra oa : Option Addr) (rn rc on oc : Nat) (w : World) :
    Calls Tryz.prog 61 #[stV p ra rn rc oa on oc code] w fun e w' => e = .returned (stV p ra rn rc oa on oc 2) ∧ Below w.heap.size w w' := by
  go_enter Tryz.func61, Tryz.ntmps61
  go_wp2
  refine bodyPost_ret (v := stV p ra rn rc oa on oc 2) (by simp [results, Tryz.results61, go_sem]) rfl ⟨rfl, ?_⟩
  go_grown

set_option maxRecDepth 100000 in
set_option maxHeartbeats 1000000 in
theorem l2Go_any (la : Option Addr) (len lc : Nat) (p code : Int) (ra oa : Option Addr) (rn rc on oc : Nat) (w : World) (h0 : 0 ≤ p) (h1 : p ≤ 1000000000) :
    Calls Tryz.prog 60 #[.slice la len lc, stV p ra rn rc oa on oc code] w fun e w' => e = .returned (stV (goP len p) ra rn rc oa on oc (goC len p code)) ∧ Below w.heap.size w w' := by
  by_cases hp : (len : Int) ≤ p + 1
  · have e1 : goP len p = p := if_pos hp
    have e2 : goC len p code = 2 := if_pos hp
    rw [e1, e2]
    clear e1 e2
    go_enter Tryz.func60, Tryz.ntmps60
    go_wp2_with fail
    refine (l2Fault_any _ _ _ _ _ _ _ _ _).mono ?_
    rintro e w1 ⟨rfl, b1⟩
    have B1 : Hid (Below w.heap.size w w1) := below_up (by go_grown) b1 (by simp; omega)
    obtain ⟨hc1, hf1⟩ := bcell b1
    clear b1
    go_wp2
    refine bodyPost_ret (v := stV p ra rn rc oa on oc 2) (by simp [results, Tryz.results60, go_sem, hc1]) rfl ⟨rfl, ?_⟩
    have := B1.out
    go_grown
  · have e1 : goP len p = p + 1 := if_neg hp
    have e2 : goC len p code = code := if_neg hp
    rw [e1, e2]
    clear e1 e2
    go_enter Tryz.func60, Tryz.ntmps60
    go_wp2
    refine bodyPost_ret (v := stV (p + 1) ra rn rc oa on oc code) (by simp [results, Tryz.results60, go_sem]) rfl ⟨rfl, ?_⟩
    go_grown

end Go.Proofs.YtcmmlklanjhfoaaGreatDoor
