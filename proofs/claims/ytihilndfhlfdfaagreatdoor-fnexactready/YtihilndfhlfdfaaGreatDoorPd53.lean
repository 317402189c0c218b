/- What a step of a system does: its code; what is known of one that is right. -/
import Derived.Test.YtihilndfhlfdfaaGreatDoorPd43
import Derived.Deep.RegionHeld3
import Derived.Deep.RegionWith
import Derived.Deep.RegionLaw
namespace Go.Proofs.YtihilndfhlfdfaaGreatDoor
open Go.ChangeShapes Go.WideShapes Go.ChangeAt Go.RowKit Go.Deep
structure EvK (w : World) (N : Nat) (k q v : Int) : Prop where
 c0 : w.cell? ⟨N, 0, none⟩ = some (.int .i64 k)
 c1 : w.cell? ⟨N, 1, none⟩ = some (.int .i64 q)
 c2 : w.cell? ⟨N, 2, none⟩ = some (.int .i64 v)
 fr : ∀ j, w.frozen? ⟨N, j, none⟩ = false
theorem EvK.below {w w' : World} {N : Nat} {k q v : Int} (h : EvK w N k q v) (hb : Below w.heap.size w w') : EvK w' N k q v := by
 have hN := hb.block N (World.block_lt_of_cell? w _ h.c0)
 exact ⟨(World.cell?_of_block hN).trans h.c0, (World.cell?_of_block hN).trans h.c1, (World.cell?_of_block hN).trans h.c2, fun j => (World.frozen?_of_block hN).trans (h.fr j)⟩
theorem EvK.new (w : World) (k q v : Int) (t : TypeId) : EvK (w.alloc (.cells #[.int .i64 k, .int .i64 q, .int .i64 v] t)) w.heap.size k q v :=
 ⟨new_cell _ _ _ 0 (by simp), new_cell _ _ _ 1 (by simp), new_cell _ _ _ 2 (by simp), fun j => new_frozen _ _ _ _ (by simp)⟩
theorem EvK.put {w : World} {N : Nat} {k q v : Int} (h : EvK w N k q v) (k' q' v' : Int) : EvK (((w.setCell ⟨N, 0, none⟩ (.int .i64 k')).setCell ⟨N, 1, none⟩ (.int .i64 q')).setCell ⟨N, 2, none⟩ (.int .i64 v')) N k' q' v' := by
 obtain ⟨h0, h1, h2, hf⟩ := h
 exact ⟨by go_cell, by go_cell, by go_cell, fun j => by simpa using hf j⟩
def Sy.nk (y : Sy) (p : Nat) : Int := nxK (y.pH p) (y.pL p) (y.sS p).p (y.sS p).rs (y.sS p).os (y.sS p).c
def Sy.nq (y : Sy) (p : Nat) : Int := nxP (y.pH p) (y.pL p) (y.sS p).p (y.sS p).rs (y.sS p).os (y.sS p).c
def Sy.nv (y : Sy) (p : Nat) : Int := nxW (y.pH p) (y.pL p) (y.sS p).p (y.sS p).rs (y.sS p).os (y.sS p).c
def tkS (y : Sy) (p : Nat) (f : Int) : Int := if belB f y.pn = true then (if y.wL (f.toNat * y.pn + p) = 0 then 3 else if (y.wH (f.toNat * y.pn + p) 0).m = true then 5 else 0) else 2
def fuS (y : Sy) (p : Nat) (k q : Int) : Bool := decide (200 ≤ y.hL p) || (k == 2 && decide (12 ≤ y.wL (p * y.pn + q.toNat)))
def cmS (y : Sy) (p : Nat) (f : Int) : Int := if (y.sS p).c ≠ 0 then 6 else if fuS y p (y.nk p) (y.nq p) = true then 4 else if y.nk p = 3 then tkS y p (if y.nq p = 9 then f else y.nq p) else 0
theorem rp_okS {g : Nat → I5} {n : Nat} {eh : Nat → E3} (hp : progOkB g n 4 = true) : ∀ k S, rp g n eh k = some S → OkS n S
 | 0, S, h => by
   simp only [rp, Option.some.injEq] at h
   subst h
   exact newS_ok hp
 | k + 1, S, h => by
   simp only [rp] at h
   cases hr : rp g n eh k with
   | none => rw [hr] at h; cases h
   | some S0 =>
     rw [hr] at h
     simp only [Option.bind_some, rpStep] at h
     split at h
     · rename_i hd
       simp only [Option.some.injEq] at h
       subst h
       exact doS_ok hd
     · cases h
theorem Sy.Ok.four {y : Sy} (h : y.Ok) {p : Nat} (hp : p < y.pn) : progOkB (y.pH p) (y.pL p) 4 = true := (repO_some (h.rp p hp)).1
theorem Sy.Ok.le200 {y : Sy} (h : y.Ok) {p : Nat} (hp : p < y.pn) : y.hL p ≤ 200 := (repO_some (h.rp p hp)).2.1
theorem Sy.Ok.st {y : Sy} (h : y.Ok) {p : Nat} (hp : p < y.pn) : OkS (y.pL p) (y.sS p) := rp_okS (h.four hp) _ _ (repO_some (h.rp p hp)).2.2
theorem Sy.Ok.right {y : Sy} (h : y.Ok) {p : Nat} (hp : p < y.pn) (hc : (y.sS p).c = 0) : rightB (y.pH p) (y.pL p) (y.sS p).p (y.sS p).rs (y.sS p).os 0 = true := by
 have := right_of (h.four hp) (h.st hp) hc
 rwa [hc] at this
theorem Sy.Ok.peer {y : Sy} (h : y.Ok) {p : Nat} (hp : p < y.pn) (hk : y.nk p = 2) : 0 ≤ y.nq p ∧ y.nq p < y.pn := by
 unfold Sy.nk nxK at hk
 unfold Sy.nq nxP
 by_cases hr : rightB (y.pH p) (y.pL p) (y.sS p).p (y.sS p).rs (y.sS p).os (y.sS p).c = true
 · rw [if_pos hr] at hk ⊢
   obtain ⟨-, h4, -⟩ := right_parts hr
   obtain ⟨-, ⟨k, ek, hkl⟩, -⟩ := st_parts h4
   have e : (y.sS p).p.toNat = k := by omega
   rw [e] at hk ⊢
   have h5 := right_ins (h.pr p hp) hkl
   simp only [insOkB, Bool.and_eq_true] at h5
   have h6 := h5.2
   have e6 : (y.pH p k).o = 6 := by
     unfold evK at hk
     by_cases e6 : (y.pH p k).o = 6
     · exact e6
     · rw [if_neg e6] at hk
       split at hk
       · cases hk
       · split at hk <;> cases hk
   rw [evP, if_pos e6]
   simp [opOkB, e6, inB] at h6
   omega
 · rw [if_neg hr] at hk
   cases hk
theorem Sy.Ok.way {y : Sy} (h : y.Ok) {a b : Nat} (ha : a < y.pn) (hb : b < y.pn) : y.wL (a * y.pn + b) ≤ 12 := (h.wa a ha b hb).le
theorem way_lt {a b n : Nat} (ha : a < n) (hb : b < n) : a * n + b < n * n := by
 have := Nat.mul_le_mul_right n (show a + 1 ≤ n by omega)
 rw [Nat.add_mul, Nat.one_mul] at this
 omega
end Go.Proofs.YtihilndfhlfdfaaGreatDoor
