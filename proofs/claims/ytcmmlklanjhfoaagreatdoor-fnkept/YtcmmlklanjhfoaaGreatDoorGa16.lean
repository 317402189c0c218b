/- The walks of the program's steps, a theorem an op. -/
import Derived.Test.YtcmmlklanjhfoaaGreatDoorGa10
import Derived.Test.YtcmmlklanjhfoaaGreatDoorGa7
import Derived.ProofKit
import Derived.OpenShut
import Derived.ShutString
import Derived.ChangeOld
import Derived.Below
import Derived.Deep.Slices
import Derived.Test.YtcmmlklanjhfoaaGreatDoorGa12
import Derived.Deep.RegionHeld3
import Derived.Laws.EntriesVeiled
namespace Go.Proofs.YtcmmlklanjhfoaaGreatDoor
open Go.ChangeShapes Go.WideShapes Go.ChangeAt Go.RowKit

theorem Tryz.own : ownKnob Tryz.prog.godebug = none := by kernel_rfl
theorem Tryz.laidOut : laidOutB Tryz.prog = true := by kernel_rfl
theorem cellsInt : Tryz.prog.cellsOf 3 = 1 := by kernel_rfl
theorem cellsInts : Tryz.prog.cellsOf 30 = 1 := by kernel_rfl

theorem array4 {cs : Array Value} (h : cs.size = 4) : ∃ c0 c1 c2 c3, cs = #[c0, c1, c2, c3] := by
  obtain ⟨l⟩ := cs
  match l, h with
  | [c0, c1, c2, c3], _ => exact ⟨c0, c1, c2, c3, rfl⟩
theorem array3 {cs : Array Value} (h : cs.size = 3) : ∃ c0 c1 c2, cs = #[c0, c1, c2] := by
  obtain ⟨l⟩ := cs
  match l, h with
  | [c0, c1, c2], _ => exact ⟨c0, c1, c2, rfl⟩

theorem addr_addO (b off j : Nat) : Addr.add ⟨b, off, none⟩ j = ⟨b, off + j, none⟩ := by
  unfold Addr.add
  by_cases h : j = 0
  · rw [if_pos h, h, Nat.add_zero]
  · rw [if_neg h]

theorem cell_lt {w : World} {p : Addr} {v : Value} (h : w.cell? p = some v) : p.block < w.heap.size := World.block_lt_of_cell? w p h

/-- A list of ints that came in. -/
theorem open_intRow {H : Type} {enc : TypeId × Value → H} {w : World} {held : Bool} {base fuel : Nat} {v : Value} {x : DataW H × List MemPlace}
    (hf : DataW.trod enc Tryz.prog w base (fun _ => true) held fuel 30 [v] = some x) :
    ∃ a0 cap xs, v = .slice a0 xs.length cap ∧ xs.length ≤ maxLen ∧ Sl w a0 xs := by
  rcases open_ints Tryz.underlying30 Tryz.underlying3 cellsInt hf with ⟨hcs, _⟩ | ⟨a, l, c, zs, hcs, _, hl, hm, hz, _, hcell, _⟩
  · simp at hcs
    exact ⟨none, 0, [], hcs, Nat.zero_le _, .inl rfl⟩
  · simp at hcs
    have hz' : zs.length = c := by simpa using hz
    have hlen : (zs.take l).length = l := by simp; omega
    refine ⟨some a, c, zs.take l, by rw [hlen]; exact hcs, by rw [hlen]; exact Nat.le_trans hl hm, ?_⟩
    by_cases h0 : l = 0
    · exact .inl (by simp [h0])
    obtain ⟨b, off, rfl, hc⟩ := ints_at hcell (by omega)
    refine .inr ⟨b, off, rfl, cell_lt (hc 0 (by omega)), fun i hi => ?_⟩
    rw [hlen] at hi
    rw [hc i (by omega)]
    unfold zi
    rw [List.getD_eq_getElem?_getD, List.getD_eq_getElem?_getD, List.getElem?_take, if_pos hi]


end Go.Proofs.YtcmmlklanjhfoaaGreatDoor

namespace Go.Proofs.YtcmmlklanjhfoaaGreatDoor
open Go.RowKit

abbrev dV (p a b c d : Int) (oa : Option Addr) (on oc : Nat) (code : Int) : Value := .agg #[.int .i64 p, .int .i64 a, .int .i64 b, .int .i64 c, .int .i64 d, .slice oa on oc, .int .i64 code]

set_option maxHeartbeats 400000 in
theorem onward_any (p a b c d : Int) (oa : Option Addr) (on oc : Nat) (code : Int) (w : World) (h0 : 0 ≤ p) (h1 : p ≤ 1000000000) :
    Calls Tryz.prog 115 #[dV p a b c d oa on oc code] w fun e w' => e = .returned (dV (p + 1) a b c d oa on oc code) ∧ Below w.heap.size w w' := by
  go_enter Tryz.func115, Tryz.ntmps115
  go_wp2
  refine bodyPost_ret (v := dV (p + 1) a b c d oa on oc code) (by simp [results, Tryz.results115, go_sem]) rfl ⟨rfl, ?_⟩
  go_grown

def set4 (a b c d : Int) (j : Nat) (v : Int) : Int × Int × Int × Int := if j = 0 then (v, b, c, d) else if j = 1 then (a, v, c, d) else if j = 2 then (a, b, v, d) else (a, b, c, v)

set_option maxHeartbeats 400000 in
theorem put_any (p a b c d : Int) (oa : Option Addr) (on oc : Nat) (code : Int) (j : Nat) (v : Int) (w : World) (h0 : 0 ≤ p) (h1 : p ≤ 1000000000) (hj : j < 4) :
    Calls Tryz.prog 114 #[dV p a b c d oa on oc code, .int .i64 j, .int .i64 v] w fun e w' => e = .returned (dV (p + 1) (set4 a b c d j v).1 (set4 a b c d j v).2.1 (set4 a b c d j v).2.2.1 (set4 a b c d j v).2.2.2 oa on oc code) ∧ Below w.heap.size w w' := by
  have hh : j = 0 ∨ j = 1 ∨ j = 2 ∨ j = 3 := by omega
  rcases hh with rfl | rfl | rfl | rfl
  · go_enter Tryz.func114, Tryz.ntmps114
    go_wp2_with fail
    refine (onward_any _ _ _ _ _ _ _ _ _ _ h0 h1).mono ?_
    rintro e w1 ⟨rfl, b1⟩
    have B1 : Hid (Below w.heap.size w w1) := below_up (by go_grown) b1 (by simp; omega)
    obtain ⟨hc1, hf1⟩ := bcell b1
    clear b1
    go_wp2
    refine bodyPost_ret (v := dV (p + 1) v b c d oa on oc code) (by simp [results, Tryz.results114, go_sem, hc1]) rfl ⟨rfl, ?_⟩
    have := B1.out
    go_grown
  · go_enter Tryz.func114, Tryz.ntmps114
    go_wp2_with fail
    refine (onward_any _ _ _ _ _ _ _ _ _ _ h0 h1).mono ?_
    rintro e w1 ⟨rfl, b1⟩
    have B1 : Hid (Below w.heap.size w w1) := below_up (by go_grown) b1 (by simp; omega)
    obtain ⟨hc1, hf1⟩ := bcell b1
    clear b1
    go_wp2
    refine bodyPost_ret (v := dV (p + 1) a v c d oa on oc code) (by simp [results, Tryz.results114, go_sem, hc1]) rfl ⟨rfl, ?_⟩
    have := B1.out
    go_grown
  · go_enter Tryz.func114, Tryz.ntmps114
    go_wp2_with fail
    refine (onward_any _ _ _ _ _ _ _ _ _ _ h0 h1).mono ?_
    rintro e w1 ⟨rfl, b1⟩
    have B1 : Hid (Below w.heap.size w w1) := below_up (by go_grown) b1 (by simp; omega)
    obtain ⟨hc1, hf1⟩ := bcell b1
    clear b1
    go_wp2
    refine bodyPost_ret (v := dV (p + 1) a b v d oa on oc code) (by simp [results, Tryz.results114, go_sem, hc1]) rfl ⟨rfl, ?_⟩
    have := B1.out
    go_grown
  · go_enter Tryz.func114, Tryz.ntmps114
    go_wp2_with fail
    refine (onward_any _ _ _ _ _ _ _ _ _ _ h0 h1).mono ?_
    rintro e w1 ⟨rfl, b1⟩
    have B1 : Hid (Below w.heap.size w w1) := below_up (by go_grown) b1 (by simp; omega)
    obtain ⟨hc1, hf1⟩ := bcell b1
    clear b1
    go_wp2
    refine bodyPost_ret (v := dV (p + 1) a b c v oa on oc code) (by simp [results, Tryz.results114, go_sem, hc1]) rfl ⟨rfl, ?_⟩
    have := B1.out
    go_grown

set_option maxRecDepth 100000 in
set_option maxHeartbeats 1000000 in
theorem doingOf_any (p code : Int) (ra oa : Option Addr) (rc oc : Nat) (a b c d : Int) (os : List Int) (w : World) (ho : os.length ≤ 1048576) (h1 : Sl w ra [a, b, c, d]) (h2 : Sl w oa os) :
    Calls Tryz.prog 54 #[stV p ra 4 rc oa os.length oc code] w fun e w' => ∃ oa' oc', e = .returned (dV p a b c d oa' os.length oc' code) ∧ OwnI w' w.heap.size (.slice oa' os.length oc') os ∧ Below w.heap.size w w' := by
  have H1 : Hid (Sl w ra [a, b, c, d]) := h1
  have H2 : Hid (Sl w oa os) := h2
  clear h1 h2
  go_enter Tryz.func54, Tryz.ntmps54
  go_wp2_with fail
  refine (registersOf_any ra rc [a, b, c, d] _ (H1.out.below (by go_grown))).mono ?_
  rintro e w1 ⟨⟨q0, q1, q2, q3, rfl, hq⟩, b1⟩
  have hq' := hq rfl
  simp only [List.cons.injEq, and_true] at hq'
  obtain ⟨rfl, rfl, rfl, rfl⟩ := hq'
  have B1 : Hid (Below w.heap.size w w1) := below_up (by go_grown) b1 (by simp; omega)
  obtain ⟨hc1, hf1⟩ := bcell b1
  have y1 : w.heap.size + 1 < w1.heap.size := by have := b1.size; simp at this; omega
  have y0 : w.heap.size < w1.heap.size := by omega
  clear b1 hq
  go_wp2_with fail
  have B2 : Hid (Below w.heap.size w (w1.alloc (.cells #[.int .i64 a, .int .i64 b, .int .i64 c, .int .i64 d] 99))) := B1.out.alloc (by omega) _
  generalize hW : w1.alloc (.cells #[.int .i64 a, .int .i64 b, .int .i64 c, .int .i64 d] 99) = W at *
  have lr : w1.heap.size < W.heap.size := by rw [← hW]; simp
  have k0 : W.cell? ⟨w1.heap.size, 0, none⟩ = some (.int .i64 a) := by rw [← hW]; simp
  have k1 : W.cell? ⟨w1.heap.size, 1, none⟩ = some (.int .i64 b) := by rw [← hW]; simp
  have k2 : W.cell? ⟨w1.heap.size, 2, none⟩ = some (.int .i64 c) := by rw [← hW]; simp
  have k3 : W.cell? ⟨w1.heap.size, 3, none⟩ = some (.int .i64 d) := by rw [← hW]; simp
  have s0 : W.cell? ⟨w.heap.size, 0, none⟩ = some (.int .i64 p) := by rw [← hW, old_cell _ _ y0, hc1 _ _ (by simp; omega)]; simp
  have s2 : W.cell? ⟨w.heap.size, 2, none⟩ = some (.slice oa os.length oc) := by rw [← hW, old_cell _ _ y0, hc1 _ _ (by simp; omega)]; simp
  have s3 : W.cell? ⟨w.heap.size, 3, none⟩ = some (.int .i64 code) := by rw [← hW, old_cell _ _ y0, hc1 _ _ (by simp; omega)]; simp
  have e0 : W.cell? ⟨w.heap.size + 1, 0, none⟩ = some (.int .i64 0) := by rw [← hW, old_cell _ _ y1, hc1 _ _ (by simp)]; simp
  have e1 : W.cell? ⟨w.heap.size + 1, 1, none⟩ = some (.int .i64 0) := by rw [← hW, old_cell _ _ y1, hc1 _ _ (by simp)]; simp
  have e2 : W.cell? ⟨w.heap.size + 1, 2, none⟩ = some (.int .i64 0) := by rw [← hW, old_cell _ _ y1, hc1 _ _ (by simp)]; simp
  have e3 : W.cell? ⟨w.heap.size + 1, 3, none⟩ = some (.int .i64 0) := by rw [← hW, old_cell _ _ y1, hc1 _ _ (by simp)]; simp
  have e4 : W.cell? ⟨w.heap.size + 1, 4, none⟩ = some (.int .i64 0) := by rw [← hW, old_cell _ _ y1, hc1 _ _ (by simp)]; simp
  have e5 : W.cell? ⟨w.heap.size + 1, 5, none⟩ = some (.slice none 0 0) := by rw [← hW, old_cell _ _ y1, hc1 _ _ (by simp)]; simp
  have e6 : W.cell? ⟨w.heap.size + 1, 6, none⟩ = some (.int .i64 0) := by rw [← hW, old_cell _ _ y1, hc1 _ _ (by simp)]; simp
  have ef : ∀ j, W.frozen? ⟨w.heap.size + 1, j, none⟩ = false := fun j => by rw [← hW, World.frozen?_of_block (Below.heap_alloc w1 _ _ y1), hf1 _ _ (by simp)]; simp
  have l0 : w.heap.size < W.heap.size := by omega
  have l1 : w.heap.size + 1 < W.heap.size := by omega
  have ne1 : w1.heap.size ≠ w.heap.size + 1 := by omega
  have ne2 : w.heap.size + 1 ≠ w1.heap.size := by omega
  clear hc1 hf1 hW B1 y0 y1
  go_region_held3 (fun w' => w'.cell? ⟨w.heap.size, 0, none⟩ = some (.int .i64 p) ∧ w'.cell? ⟨w.heap.size, 2, none⟩ = some (.slice oa os.length oc) ∧ w'.cell? ⟨w.heap.size, 3, none⟩ = some (.int .i64 code) ∧ w'.cell? ⟨w1.heap.size, 0, none⟩ = some (.int .i64 a) ∧ w'.cell? ⟨w1.heap.size, 1, none⟩ = some (.int .i64 b) ∧ w'.cell? ⟨w1.heap.size, 2, none⟩ = some (.int .i64 c) ∧ w'.cell? ⟨w1.heap.size, 3, none⟩ = some (.int .i64 d)) (go_keep)
    (first | (go_at_call 51; refine (clone_any oa oc os _ ho (by exact H2.out.below B2.out.drew)).mono ?_; rintro e w2 ⟨v2, rfl, o2, b2'⟩; have b2 : Below W.heap.size W w2 := (Below.refl W.heap.size W).drew.trans b2'; obtain ⟨oa2, oc2, rfl, -⟩ := o2.form; obtain ⟨hc2, hf2⟩ := bcell b2; have O2 : Hid (OwnI w2 W.heap.size (.slice oa2 os.length oc2) os) := o2; have B3 : Hid (Below w.heap.size w w2) := B2.out.trans (b2.mono B2.out.size); clear o2 b2 b2'))
  go_wp2
  refine bodyPost_ret (v := dV p a b c d oa2 os.length oc2 code) (by simp [results, Tryz.results54, go_sem, hc2, l1, e0, e1, e2, e3, e4, e5, e6]) rfl ⟨_, _, rfl, ?_, ?_⟩
  · refine OwnI.mono (B := W.heap.size) ?_ (by omega)
    repeat (refine OwnI.setBelow ?_ (by simpa using by omega) _)
    exact O2.out
  · have := B3.out
    go_grown

set_option maxRecDepth 100000 in
set_option maxHeartbeats 1000000 in
theorem state_any (p a b c d : Int) (oa : Option Addr) (oc : Nat) (os : List Int) (code : Int) (B : Nat) (w : World) (hB : B ≤ w.heap.size) (ho : OwnI w B (.slice oa os.length oc) os) :
    Calls Tryz.prog 57 #[dV p a b c d oa os.length oc code] w fun e w' => ∃ v, e = .returned v ∧ StOwn w' B v p [a, b, c, d] os code ∧ Below w.heap.size w w' := by
  have HO : Hid (OwnI w B (.slice oa os.length oc) os) := ho
  clear ho
  go_enter Tryz.func57, Tryz.ntmps57
  go_wp2_with fail
  have B2 : Hid (Below w.heap.size w ((w.alloc (.cells #[.int .i64 p, .int .i64 a, .int .i64 b, .int .i64 c, .int .i64 d, .slice oa os.length oc, .int .i64 code] 101)).alloc (.cells #[.int .i64 0, .slice none 0 0, .slice none 0 0, .int .i64 0] 32))) := by
    show Below _ _ _
    go_grown
  have k0 : ((w.alloc (.cells #[.int .i64 p, .int .i64 a, .int .i64 b, .int .i64 c, .int .i64 d, .slice oa os.length oc, .int .i64 code] 101)).alloc (.cells #[.int .i64 0, .slice none 0 0, .slice none 0 0, .int .i64 0] 32)).cell? ⟨w.heap.size, 0, none⟩ = some (.int .i64 p) := (old_cell _ _ (by simp)).trans (by simp)
  have k1 : ((w.alloc (.cells #[.int .i64 p, .int .i64 a, .int .i64 b, .int .i64 c, .int .i64 d, .slice oa os.length oc, .int .i64 code] 101)).alloc (.cells #[.int .i64 0, .slice none 0 0, .slice none 0 0, .int .i64 0] 32)).cell? ⟨w.heap.size, 1, none⟩ = some (.int .i64 a) := (old_cell _ _ (by simp)).trans (by simp)
  have k2 : ((w.alloc (.cells #[.int .i64 p, .int .i64 a, .int .i64 b, .int .i64 c, .int .i64 d, .slice oa os.length oc, .int .i64 code] 101)).alloc (.cells #[.int .i64 0, .slice none 0 0, .slice none 0 0, .int .i64 0] 32)).cell? ⟨w.heap.size, 2, none⟩ = some (.int .i64 b) := (old_cell _ _ (by simp)).trans (by simp)
  have k3 : ((w.alloc (.cells #[.int .i64 p, .int .i64 a, .int .i64 b, .int .i64 c, .int .i64 d, .slice oa os.length oc, .int .i64 code] 101)).alloc (.cells #[.int .i64 0, .slice none 0 0, .slice none 0 0, .int .i64 0] 32)).cell? ⟨w.heap.size, 3, none⟩ = some (.int .i64 c) := (old_cell _ _ (by simp)).trans (by simp)
  have k4 : ((w.alloc (.cells #[.int .i64 p, .int .i64 a, .int .i64 b, .int .i64 c, .int .i64 d, .slice oa os.length oc, .int .i64 code] 101)).alloc (.cells #[.int .i64 0, .slice none 0 0, .slice none 0 0, .int .i64 0] 32)).cell? ⟨w.heap.size, 4, none⟩ = some (.int .i64 d) := (old_cell _ _ (by simp)).trans (by simp)
  have k5 : ((w.alloc (.cells #[.int .i64 p, .int .i64 a, .int .i64 b, .int .i64 c, .int .i64 d, .slice oa os.length oc, .int .i64 code] 101)).alloc (.cells #[.int .i64 0, .slice none 0 0, .slice none 0 0, .int .i64 0] 32)).cell? ⟨w.heap.size, 5, none⟩ = some (.slice oa os.length oc) := (old_cell _ _ (by simp)).trans (by simp)
  have k6 : ((w.alloc (.cells #[.int .i64 p, .int .i64 a, .int .i64 b, .int .i64 c, .int .i64 d, .slice oa os.length oc, .int .i64 code] 101)).alloc (.cells #[.int .i64 0, .slice none 0 0, .slice none 0 0, .int .i64 0] 32)).cell? ⟨w.heap.size, 6, none⟩ = some (.int .i64 code) := (old_cell _ _ (by simp)).trans (by simp)
  have e0 : ((w.alloc (.cells #[.int .i64 p, .int .i64 a, .int .i64 b, .int .i64 c, .int .i64 d, .slice oa os.length oc, .int .i64 code] 101)).alloc (.cells #[.int .i64 0, .slice none 0 0, .slice none 0 0, .int .i64 0] 32)).cell? ⟨w.heap.size + 1, 0, none⟩ = some (.int .i64 0) := by simp
  have e1 : ((w.alloc (.cells #[.int .i64 p, .int .i64 a, .int .i64 b, .int .i64 c, .int .i64 d, .slice oa os.length oc, .int .i64 code] 101)).alloc (.cells #[.int .i64 0, .slice none 0 0, .slice none 0 0, .int .i64 0] 32)).cell? ⟨w.heap.size + 1, 1, none⟩ = some (.slice none 0 0) := by simp
  have e2 : ((w.alloc (.cells #[.int .i64 p, .int .i64 a, .int .i64 b, .int .i64 c, .int .i64 d, .slice oa os.length oc, .int .i64 code] 101)).alloc (.cells #[.int .i64 0, .slice none 0 0, .slice none 0 0, .int .i64 0] 32)).cell? ⟨w.heap.size + 1, 2, none⟩ = some (.slice none 0 0) := by simp
  have e3 : ((w.alloc (.cells #[.int .i64 p, .int .i64 a, .int .i64 b, .int .i64 c, .int .i64 d, .slice oa os.length oc, .int .i64 code] 101)).alloc (.cells #[.int .i64 0, .slice none 0 0, .slice none 0 0, .int .i64 0] 32)).cell? ⟨w.heap.size + 1, 3, none⟩ = some (.int .i64 0) := by simp
  have ef : ∀ j, ((w.alloc (.cells #[.int .i64 p, .int .i64 a, .int .i64 b, .int .i64 c, .int .i64 d, .slice oa os.length oc, .int .i64 code] 101)).alloc (.cells #[.int .i64 0, .slice none 0 0, .slice none 0 0, .int .i64 0] 32)).frozen? ⟨w.heap.size + 1, j, none⟩ = false := fun j => by simp
  have l1 : w.heap.size + 1 < ((w.alloc (.cells #[.int .i64 p, .int .i64 a, .int .i64 b, .int .i64 c, .int .i64 d, .slice oa os.length oc, .int .i64 code] 101)).alloc (.cells #[.int .i64 0, .slice none 0 0, .slice none 0 0, .int .i64 0] 32)).heap.size := by simp
  generalize (w.alloc (.cells #[.int .i64 p, .int .i64 a, .int .i64 b, .int .i64 c, .int .i64 d, .slice oa os.length oc, .int .i64 code] 101)).alloc (.cells #[.int .i64 0, .slice none 0 0, .slice none 0 0, .int .i64 0] 32) = W at *
  have l0 : w.heap.size < W.heap.size := by omega
  have HS : Hid (Sl W (some ⟨w.heap.size, 1, none⟩) [a, b, c, d]) := .inr ⟨_, _, rfl, l0, fun i hi => by
    match i, hi with
    | 0, _ => exact k1
    | 1, _ => exact k2
    | 2, _ => exact k3
    | 3, _ => exact k4⟩
  have ne2 : w.heap.size + 1 ≠ w.heap.size := by omega
  have ne1 : w.heap.size ≠ w.heap.size + 1 := by omega
  go_region_held3 (fun w' => w'.cell? ⟨w.heap.size, 0, none⟩ = some (.int .i64 p) ∧ w'.cell? ⟨w.heap.size, 5, none⟩ = some (.slice oa os.length oc) ∧ w'.cell? ⟨w.heap.size, 6, none⟩ = some (.int .i64 code)) (go_keep)
    (first | (go_at_call 51; refine (clone_any _ _ [a, b, c, d] _ (by simp) (by exact HS.out.below ((Below.refl W.heap.size W).drew))).mono ?_; rintro e w2 ⟨v2, rfl, o2, b2'⟩; have b2 : Below W.heap.size W w2 := (Below.refl W.heap.size W).drew.trans b2'; obtain ⟨ra2, rc2, hv2, -⟩ := o2.form; rw [show [a, b, c, d].length = 4 from rfl] at hv2; subst hv2; obtain ⟨hc2, hf2⟩ := bcell b2; have O2 : Hid (OwnI w2 W.heap.size (.slice ra2 4 rc2) [a, b, c, d]) := o2; have P2 : Hid (OwnI w2 B (.slice oa os.length oc) os) := (HO.out.below B2.out).below b2; have B3 : Hid (Below w.heap.size w w2) := B2.out.trans (b2.mono B2.out.size); clear o2 b2 b2'))
  have lo : ∀ j, (Value.slice oa os.length oc).ownBlock = some j → j < w.heap.size := fun j hj => (HO.out.lt j hj).2
  have LO : Hid (∀ j, (Value.slice oa os.length oc).ownBlock = some j → j < w.heap.size) := lo
  clear lo HS k0 k1 k2 k3 k4 k5 k6
  go_wp2
  refine bodyPost_ret (v := stV p ra2 4 rc2 oa os.length oc code) (by simp [results, Tryz.results57, go_sem, hc2, l1, e0, e1, e2, e3]) rfl ⟨_, rfl, ⟨_, _, rfl, ?_, ?_, ?_⟩, ?_⟩
  · refine OwnI.mono (B := W.heap.size) ?_ (by omega)
    repeat (refine OwnI.setBelow ?_ (by simpa using l1) _)
    exact O2.out
  · repeat (refine OwnI.setOther ?_ (fun e => by have := LO.out _ e; simp at this; omega) _)
    exact P2.out
  · intro j h1 h2
    have := (O2.out.lt j h1).1
    have := LO.out j h2
    omega
  · have := B3.out
    go_grown

end Go.Proofs.YtcmmlklanjhfoaaGreatDoor

namespace Go.Proofs.YtcmmlklanjhfoaaGreatDoor
open Go.RowKit

theorem new_cellB (w : World) (cs : Array Value) (t : TypeId) (j : Nat) {N : Nat} (h : N = w.heap.size) : (w.alloc (.cells cs t)).cell? ⟨N, j, none⟩ = cs[j]? := by
  subst h
  simp
theorem new_frozenB (w : World) (cs : Array Value) (t : TypeId) (j : Nat) {N : Nat} (h : N = w.heap.size) : (w.alloc (.cells cs t)).frozen? ⟨N, j, none⟩ = false := by
  subst h
  simp

theorem set4_list (a b c d : Int) (j : Nat) (v : Int) (hj : j < 4) : [(set4 a b c d j v).1, (set4 a b c d j v).2.1, (set4 a b c d j v).2.2.1, (set4 a b c d j v).2.2.2] = [a, b, c, d].set j v := by
  match j, hj with
  | 0, _ => rfl
  | 1, _ => rfl
  | 2, _ => rfl
  | 3, _ => rfl

set_option maxRecDepth 100000 in
set_option maxHeartbeats 2000000 in
theorem step_set (p a b c d : Int) (oa : Option Addr) (on oc : Nat) (code : Int) (jr ja jb : Nat) (n o k q v : Int) (w : World) (h0 : 0 ≤ p) (h1 : p ≤ 1000000000) (hj : jr < 4) :
    Calls Tryz.prog 86 #[dV p a b c d oa on oc code, insV o jr ja jb n, evV k q v] w fun e w' => e = .returned (dV (p + 1) (set4 a b c d jr (n)).1 (set4 a b c d jr (n)).2.1 (set4 a b c d jr (n)).2.2.1 (set4 a b c d jr (n)).2.2.2 oa on oc code) ∧ Below w.heap.size w w' := by
  go_enter Tryz.func86, Tryz.ntmps86
  go_wp2_with fail
  refine (put_any _ _ _ _ _ _ _ _ _ _ _ _ h0 h1 hj).mono ?_
  rintro e w1 ⟨rfl, b1⟩
  have B1 : Hid (Below w.heap.size w w1) := below_up (by go_grown) b1 (by simp; omega)
  obtain ⟨hc1, hf1⟩ := bcell b1
  clear b1
  go_wp2
  refine bodyPost_ret (v := dV (p + 1) (set4 a b c d jr (n)).1 (set4 a b c d jr (n)).2.1 (set4 a b c d jr (n)).2.2.1 (set4 a b c d jr (n)).2.2.2 oa on oc code) (by simp [results, Tryz.results86, go_sem, hc1]) rfl ⟨rfl, ?_⟩
  have := B1.out
  go_grown

set_option maxRecDepth 100000 in
set_option maxHeartbeats 2000000 in
theorem step_take (p a b c d : Int) (oa : Option Addr) (on oc : Nat) (code : Int) (jr ja jb : Nat) (n o k q v : Int) (w : World) (h0 : 0 ≤ p) (h1 : p ≤ 1000000000) (hj : jr < 4) :
    Calls Tryz.prog 92 #[dV p a b c d oa on oc code, insV o jr ja jb n, evV k q v] w fun e w' => e = .returned (dV (p + 1) (set4 a b c d jr (v)).1 (set4 a b c d jr (v)).2.1 (set4 a b c d jr (v)).2.2.1 (set4 a b c d jr (v)).2.2.2 oa on oc code) ∧ Below w.heap.size w w' := by
  go_enter Tryz.func92, Tryz.ntmps92
  go_wp2_with fail
  refine (put_any _ _ _ _ _ _ _ _ _ _ _ _ h0 h1 hj).mono ?_
  rintro e w1 ⟨rfl, b1⟩
  have B1 : Hid (Below w.heap.size w w1) := below_up (by go_grown) b1 (by simp; omega)
  obtain ⟨hc1, hf1⟩ := bcell b1
  clear b1
  go_wp2
  refine bodyPost_ret (v := dV (p + 1) (set4 a b c d jr (v)).1 (set4 a b c d jr (v)).2.1 (set4 a b c d jr (v)).2.2.1 (set4 a b c d jr (v)).2.2.2 oa on oc code) (by simp [results, Tryz.results92, go_sem, hc1]) rfl ⟨rfl, ?_⟩
  have := B1.out
  go_grown

set_option maxRecDepth 100000 in
set_option maxHeartbeats 2000000 in
theorem step_send (p a b c d : Int) (oa : Option Addr) (on oc : Nat) (code : Int) (jr ja jb : Nat) (n o k q v : Int) (w : World) (h0 : 0 ≤ p) (h1 : p ≤ 1000000000) :
    Calls Tryz.prog 91 #[dV p a b c d oa on oc code, insV o jr ja jb n, evV k q v] w fun e w' => e = .returned (dV (p + 1) a b c d oa on oc code) ∧ Below w.heap.size w w' := by
  go_enter Tryz.func91, Tryz.ntmps91
  go_wp2_with fail
  refine (onward_any _ _ _ _ _ _ _ _ _ _ h0 h1).mono ?_
  rintro e w1 ⟨rfl, b1⟩
  have B1 : Hid (Below w.heap.size w w1) := below_up (by go_grown) b1 (by simp; omega)
  obtain ⟨hc1, hf1⟩ := bcell b1
  clear b1
  go_wp2
  refine bodyPost_ret (v := dV (p + 1) a b c d oa on oc code) (by simp [results, Tryz.results91, go_sem, hc1]) rfl ⟨rfl, ?_⟩
  have := B1.out
  go_grown

set_option maxRecDepth 100000 in
set_option maxHeartbeats 2000000 in
theorem step_jump (p a b c d : Int) (oa : Option Addr) (on oc : Nat) (code : Int) (jr ja jb : Nat) (n o k q v : Int) (w : World) (_h0 : 0 ≤ p) (_h1 : p ≤ 1000000000) :
    Calls Tryz.prog 94 #[dV p a b c d oa on oc code, insV o jr ja jb n, evV k q v] w fun e w' => e = .returned (dV n a b c d oa on oc code) ∧ Below w.heap.size w w' := by
  go_enter Tryz.func94, Tryz.ntmps94
  go_wp2
  refine bodyPost_ret (v := dV n a b c d oa on oc code) (by simp [results, Tryz.results94, go_sem]) rfl ⟨rfl, ?_⟩
  go_grown

set_option maxRecDepth 100000 in
set_option maxHeartbeats 2000000 in
theorem step_end (p a b c d : Int) (oa : Option Addr) (on oc : Nat) (code : Int) (jr ja jb : Nat) (n o k q v : Int) (w : World) (_h0 : 0 ≤ p) (_h1 : p ≤ 1000000000) :
    Calls Tryz.prog 96 #[dV p a b c d oa on oc code, insV o jr ja jb n, evV k q v] w fun e w' => e = .returned (dV p a b c d oa on oc 1) ∧ Below w.heap.size w w' := by
  go_enter Tryz.func96, Tryz.ntmps96
  go_wp2
  refine bodyPost_ret (v := dV p a b c d oa on oc 1) (by simp [results, Tryz.results96, go_sem]) rfl ⟨rfl, ?_⟩
  go_grown

theorem diB_w1 {w W : World} {v0 : Int} {v1 : Int} {v2 : Int} {v3 : Int} {v4 : Int} {v5 : Option Addr} {v6 : Nat} {v7 : Nat} {v8 : Int} {v9 : Int} {v10 : Int} {v11 : Int} {v12 : Int} {v13 : Int} {v14 : Int} {v15 : Int} {v16 : Int} (hW : ((((w.alloc (.cells #[.int .i64 v0, .int .i64 v1, .int .i64 v2, .int .i64 v3, .int .i64 v4, .slice v5 v6 v7, .int .i64 v8] 101)).alloc (.cells #[.int .i64 v9, .int .i64 v10, .int .i64 v11, .int .i64 v12, .int .i64 v13] 97)).alloc (.cells #[.int .i64 v14, .int .i64 v15, .int .i64 v16] 62)).alloc (.cells #[.int .i64 0, .int .i64 0, .int .i64 0, .int .i64 0, .int .i64 0, .slice none 0 0, .int .i64 0] 101)) = W) : W.cell? ⟨w.heap.size, 0, none⟩ = some (.int .i64 v0) ∧ W.cell? ⟨w.heap.size, 1, none⟩ = some (.int .i64 v1) ∧ W.cell? ⟨w.heap.size, 2, none⟩ = some (.int .i64 v2) ∧ W.cell? ⟨w.heap.size, 3, none⟩ = some (.int .i64 v3) ∧ W.cell? ⟨w.heap.size, 4, none⟩ = some (.int .i64 v4) ∧ W.cell? ⟨w.heap.size, 5, none⟩ = some (.slice v5 v6 v7) ∧ W.cell? ⟨w.heap.size, 6, none⟩ = some (.int .i64 v8) ∧ W.cell? ⟨w.heap.size + 1, 0, none⟩ = some (.int .i64 v9) ∧ W.cell? ⟨w.heap.size + 1, 1, none⟩ = some (.int .i64 v10) ∧ W.cell? ⟨w.heap.size + 1, 2, none⟩ = some (.int .i64 v11) ∧ W.cell? ⟨w.heap.size + 1, 3, none⟩ = some (.int .i64 v12) ∧ W.cell? ⟨w.heap.size + 1, 4, none⟩ = some (.int .i64 v13) ∧ W.cell? ⟨w.heap.size + 1 + 1, 0, none⟩ = some (.int .i64 v14) ∧ W.cell? ⟨w.heap.size + 1 + 1, 1, none⟩ = some (.int .i64 v15) ∧ W.cell? ⟨w.heap.size + 1 + 1, 2, none⟩ = some (.int .i64 v16) ∧ W.cell? ⟨w.heap.size + 1 + 1 + 1, 0, none⟩ = some (.int .i64 0) ∧ W.cell? ⟨w.heap.size + 1 + 1 + 1, 1, none⟩ = some (.int .i64 0) ∧ W.cell? ⟨w.heap.size + 1 + 1 + 1, 2, none⟩ = some (.int .i64 0) ∧ W.cell? ⟨w.heap.size + 1 + 1 + 1, 3, none⟩ = some (.int .i64 0) ∧ W.cell? ⟨w.heap.size + 1 + 1 + 1, 4, none⟩ = some (.int .i64 0) ∧ W.cell? ⟨w.heap.size + 1 + 1 + 1, 5, none⟩ = some (.slice none 0 0) ∧ W.cell? ⟨w.heap.size + 1 + 1 + 1, 6, none⟩ = some (.int .i64 0) ∧ (∀ j, W.frozen? ⟨w.heap.size + 1 + 1 + 1, j, none⟩ = false) ∧ w.heap.size + 1 + 1 + 1 < W.heap.size ∧ Below w.heap.size w W := by
  subst hW
  exact ⟨(old_cell _ _ (by first | (simp; done) | (simp; omega))).trans ((old_cell _ _ (by first | (simp; done) | (simp; omega))).trans ((old_cell _ _ (by simp)).trans (by simp))), (old_cell _ _ (by first | (simp; done) | (simp; omega))).trans ((old_cell _ _ (by first | (simp; done) | (simp; omega))).trans ((old_cell _ _ (by simp)).trans (by simp))), (old_cell _ _ (by first | (simp; done) | (simp; omega))).trans ((old_cell _ _ (by first | (simp; done) | (simp; omega))).trans ((old_cell _ _ (by simp)).trans (by simp))), (old_cell _ _ (by first | (simp; done) | (simp; omega))).trans ((old_cell _ _ (by first | (simp; done) | (simp; omega))).trans ((old_cell _ _ (by simp)).trans (by simp))), (old_cell _ _ (by first | (simp; done) | (simp; omega))).trans ((old_cell _ _ (by first | (simp; done) | (simp; omega))).trans ((old_cell _ _ (by simp)).trans (by simp))), (old_cell _ _ (by first | (simp; done) | (simp; omega))).trans ((old_cell _ _ (by first | (simp; done) | (simp; omega))).trans ((old_cell _ _ (by simp)).trans (by simp))), (old_cell _ _ (by first | (simp; done) | (simp; omega))).trans ((old_cell _ _ (by first | (simp; done) | (simp; omega))).trans ((old_cell _ _ (by simp)).trans (by simp))), (old_cell _ _ (by first | (simp; done) | (simp; omega))).trans ((old_cell _ _ (by simp)).trans (by simp)), (old_cell _ _ (by first | (simp; done) | (simp; omega))).trans ((old_cell _ _ (by simp)).trans (by simp)), (old_cell _ _ (by first | (simp; done) | (simp; omega))).trans ((old_cell _ _ (by simp)).trans (by simp)), (old_cell _ _ (by first | (simp; done) | (simp; omega))).trans ((old_cell _ _ (by simp)).trans (by simp)), (old_cell _ _ (by first | (simp; done) | (simp; omega))).trans ((old_cell _ _ (by simp)).trans (by simp)), (old_cell _ _ (by simp)).trans (new_cellB _ _ _ 0 (by simp)), (old_cell _ _ (by simp)).trans (new_cellB _ _ _ 1 (by simp)), (old_cell _ _ (by simp)).trans (new_cellB _ _ _ 2 (by simp)), new_cellB _ _ _ 0 (by simp), new_cellB _ _ _ 1 (by simp), new_cellB _ _ _ 2 (by simp), new_cellB _ _ _ 3 (by simp), new_cellB _ _ _ 4 (by simp), new_cellB _ _ _ 5 (by simp), new_cellB _ _ _ 6 (by simp), fun j => new_frozenB _ _ _ j (by simp), by simp, by go_grown⟩

set_option maxRecDepth 100000 in
set_option maxHeartbeats 2000000 in
theorem step_add (p a b c d : Int) (oa : Option Addr) (on oc : Nat) (code : Int) (jr ja jb : Nat) (n o k q v : Int) (w : World) (h0 : 0 ≤ p) (h1 : p ≤ 1000000000) (hj : jr < 4) (ha : ja < 4) (hb : jb < 4) (na1 : -1000000000 ≤ zi [a, b, c, d] ja) (na2 : zi [a, b, c, d] ja ≤ 1000000000) (nb1 : -1000000000 ≤ zi [a, b, c, d] jb) (nb2 : zi [a, b, c, d] jb ≤ 1000000000) (mb1 : -1000000000000000000 ≤ zi [a, b, c, d] ja * zi [a, b, c, d] jb) (mb2 : zi [a, b, c, d] ja * zi [a, b, c, d] jb ≤ 1000000000000000000) :
    Calls Tryz.prog 87 #[dV p a b c d oa on oc code, insV o jr ja jb n, evV k q v] w fun e w' => e = .returned (dV (p + 1) (set4 a b c d jr (zi [a, b, c, d] ja + zi [a, b, c, d] jb)).1 (set4 a b c d jr (zi [a, b, c, d] ja + zi [a, b, c, d] jb)).2.1 (set4 a b c d jr (zi [a, b, c, d] ja + zi [a, b, c, d] jb)).2.2.1 (set4 a b c d jr (zi [a, b, c, d] ja + zi [a, b, c, d] jb)).2.2.2 oa on oc code) ∧ Below w.heap.size w w' := by
  go_enter Tryz.func87, Tryz.ntmps87
  go_wp2_with fail
  generalize hW : ((((w.alloc (.cells #[.int .i64 p, .int .i64 a, .int .i64 b, .int .i64 c, .int .i64 d, .slice oa on oc, .int .i64 code] 101)).alloc (.cells #[.int .i64 o, .int .i64 jr, .int .i64 ja, .int .i64 jb, .int .i64 n] 97)).alloc (.cells #[.int .i64 k, .int .i64 q, .int .i64 v] 62)).alloc (.cells #[.int .i64 0, .int .i64 0, .int .i64 0, .int .i64 0, .int .i64 0, .slice none 0 0, .int .i64 0] 101)) = W at *
  obtain ⟨k0, k1, k2, k3, k4, k5, k6, x0, x1, x2, x3, x4, y0, y1, y2, r0, r1, r2, r3, r4, r5, r6, rf, l3, BW'⟩ := diB_w1 hW
  have BW : Hid (Below w.heap.size w W) := BW'
  clear BW'
  clear hW
  have l0 : w.heap.size < W.heap.size := by omega
  have l1 : w.heap.size + 1 < W.heap.size := by omega
  have l2 : w.heap.size + 1 + 1 < W.heap.size := by omega
  have ja' : (ja : Int) < 4 := by omega
  have ca : W.cell? ⟨w.heap.size, 1 + ja, none⟩ = some (.int .i64 (zi [a, b, c, d] ja)) := by
    match ja, ha with
    | 0, _ => exact k1
    | 1, _ => exact k2
    | 2, _ => exact k3
    | 3, _ => exact k4
  have cb : W.cell? ⟨w.heap.size, 1 + jb, none⟩ = some (.int .i64 (zi [a, b, c, d] jb)) := by
    match jb, hb with
    | 0, _ => exact k1
    | 1, _ => exact k2
    | 2, _ => exact k3
    | 3, _ => exact k4
  have jb' : (jb : Int) < 4 := by omega
  have hw : IntKind.i64.wrap (zi [a, b, c, d] ja + zi [a, b, c, d] jb) = zi [a, b, c, d] ja + zi [a, b, c, d] jb := by rw [IntKind.wrap_i64]; omega
  generalize hN3 : w.heap.size + 1 + 1 + 1 = N3 at *
  generalize hN2 : w.heap.size + 1 + 1 = N2 at *
  generalize hN1 : w.heap.size + 1 = N1 at *
  have ne1 : w.heap.size ≠ N3 := by omega
  have ne2 : N1 ≠ N3 := by omega
  have ne3 : N3 ≠ w.heap.size := by omega
  have ne4 : N3 ≠ N1 := by omega
  have HN : Hid (w.heap.size < N3) := by show w.heap.size < N3; omega
  clear hN1 hN2 hN3
  go_region_held3 (fun w' => w'.cell? ⟨w.heap.size, 0, none⟩ = some (.int .i64 p) ∧ w'.cell? ⟨w.heap.size, 1, none⟩ = some (.int .i64 a) ∧ w'.cell? ⟨w.heap.size, 2, none⟩ = some (.int .i64 b) ∧ w'.cell? ⟨w.heap.size, 3, none⟩ = some (.int .i64 c) ∧ w'.cell? ⟨w.heap.size, 4, none⟩ = some (.int .i64 d) ∧ w'.cell? ⟨w.heap.size, 5, none⟩ = some (.slice oa on oc) ∧ w'.cell? ⟨w.heap.size, 6, none⟩ = some (.int .i64 code) ∧ w'.cell? ⟨N1, 1, none⟩ = some (.int .i64 jr) ∧ w'.cell? ⟨N1, 2, none⟩ = some (.int .i64 ja) ∧ w'.cell? ⟨N1, 3, none⟩ = some (.int .i64 jb) ∧ w'.cell? ⟨w.heap.size, 1 + ja, none⟩ = some (.int .i64 (zi [a, b, c, d] ja)) ∧ w'.cell? ⟨w.heap.size, 1 + jb, none⟩ = some (.int .i64 (zi [a, b, c, d] jb))) (go_keep)
    (first | (go_at_call 114; refine (put_any _ _ _ _ _ _ _ _ _ _ _ _ h0 h1 hj).mono ?_; rintro e w1 ⟨rfl, b1'⟩; have b1 : Below W.heap.size W w1 := (Below.refl W.heap.size W).drew.trans b1'; obtain ⟨hc1, hf1⟩ := bcell b1; have B1 : Hid (Below w.heap.size w w1) := BW.out.trans (b1.mono BW.out.size); clear b1 b1'))
  go_wp2
  refine bodyPost_ret (v := dV (p + 1) (set4 a b c d jr (zi [a, b, c, d] ja + zi [a, b, c, d] jb)).1 (set4 a b c d jr (zi [a, b, c, d] ja + zi [a, b, c, d] jb)).2.1 (set4 a b c d jr (zi [a, b, c, d] ja + zi [a, b, c, d] jb)).2.2.1 (set4 a b c d jr (zi [a, b, c, d] ja + zi [a, b, c, d] jb)).2.2.2 oa on oc code) (by simp [results, Tryz.results87, go_sem, hc1, l3, r0, r1, r2, r3, r4, r5, r6]) rfl ⟨rfl, ?_⟩
  have := B1.out
  have := HN.out
  go_grown

set_option maxRecDepth 100000 in
set_option maxHeartbeats 2000000 in
theorem step_sub (p a b c d : Int) (oa : Option Addr) (on oc : Nat) (code : Int) (jr ja jb : Nat) (n o k q v : Int) (w : World) (h0 : 0 ≤ p) (h1 : p ≤ 1000000000) (hj : jr < 4) (ha : ja < 4) (hb : jb < 4) (na1 : -1000000000 ≤ zi [a, b, c, d] ja) (na2 : zi [a, b, c, d] ja ≤ 1000000000) (nb1 : -1000000000 ≤ zi [a, b, c, d] jb) (nb2 : zi [a, b, c, d] jb ≤ 1000000000) (mb1 : -1000000000000000000 ≤ zi [a, b, c, d] ja * zi [a, b, c, d] jb) (mb2 : zi [a, b, c, d] ja * zi [a, b, c, d] jb ≤ 1000000000000000000) :
    Calls Tryz.prog 88 #[dV p a b c d oa on oc code, insV o jr ja jb n, evV k q v] w fun e w' => e = .returned (dV (p + 1) (set4 a b c d jr (zi [a, b, c, d] ja - zi [a, b, c, d] jb)).1 (set4 a b c d jr (zi [a, b, c, d] ja - zi [a, b, c, d] jb)).2.1 (set4 a b c d jr (zi [a, b, c, d] ja - zi [a, b, c, d] jb)).2.2.1 (set4 a b c d jr (zi [a, b, c, d] ja - zi [a, b, c, d] jb)).2.2.2 oa on oc code) ∧ Below w.heap.size w w' := by
  go_enter Tryz.func88, Tryz.ntmps88
  go_wp2_with fail
  generalize hW : ((((w.alloc (.cells #[.int .i64 p, .int .i64 a, .int .i64 b, .int .i64 c, .int .i64 d, .slice oa on oc, .int .i64 code] 101)).alloc (.cells #[.int .i64 o, .int .i64 jr, .int .i64 ja, .int .i64 jb, .int .i64 n] 97)).alloc (.cells #[.int .i64 k, .int .i64 q, .int .i64 v] 62)).alloc (.cells #[.int .i64 0, .int .i64 0, .int .i64 0, .int .i64 0, .int .i64 0, .slice none 0 0, .int .i64 0] 101)) = W at *
  obtain ⟨k0, k1, k2, k3, k4, k5, k6, x0, x1, x2, x3, x4, y0, y1, y2, r0, r1, r2, r3, r4, r5, r6, rf, l3, BW'⟩ := diB_w1 hW
  have BW : Hid (Below w.heap.size w W) := BW'
  clear BW'
  clear hW
  have l0 : w.heap.size < W.heap.size := by omega
  have l1 : w.heap.size + 1 < W.heap.size := by omega
  have l2 : w.heap.size + 1 + 1 < W.heap.size := by omega
  have ja' : (ja : Int) < 4 := by omega
  have ca : W.cell? ⟨w.heap.size, 1 + ja, none⟩ = some (.int .i64 (zi [a, b, c, d] ja)) := by
    match ja, ha with
    | 0, _ => exact k1
    | 1, _ => exact k2
    | 2, _ => exact k3
    | 3, _ => exact k4
  have cb : W.cell? ⟨w.heap.size, 1 + jb, none⟩ = some (.int .i64 (zi [a, b, c, d] jb)) := by
    match jb, hb with
    | 0, _ => exact k1
    | 1, _ => exact k2
    | 2, _ => exact k3
    | 3, _ => exact k4
  have jb' : (jb : Int) < 4 := by omega
  have hw : IntKind.i64.wrap (zi [a, b, c, d] ja - zi [a, b, c, d] jb) = zi [a, b, c, d] ja - zi [a, b, c, d] jb := by rw [IntKind.wrap_i64]; omega
  generalize hN3 : w.heap.size + 1 + 1 + 1 = N3 at *
  generalize hN2 : w.heap.size + 1 + 1 = N2 at *
  generalize hN1 : w.heap.size + 1 = N1 at *
  have ne1 : w.heap.size ≠ N3 := by omega
  have ne2 : N1 ≠ N3 := by omega
  have ne3 : N3 ≠ w.heap.size := by omega
  have ne4 : N3 ≠ N1 := by omega
  have HN : Hid (w.heap.size < N3) := by show w.heap.size < N3; omega
  clear hN1 hN2 hN3
  go_region_held3 (fun w' => w'.cell? ⟨w.heap.size, 0, none⟩ = some (.int .i64 p) ∧ w'.cell? ⟨w.heap.size, 1, none⟩ = some (.int .i64 a) ∧ w'.cell? ⟨w.heap.size, 2, none⟩ = some (.int .i64 b) ∧ w'.cell? ⟨w.heap.size, 3, none⟩ = some (.int .i64 c) ∧ w'.cell? ⟨w.heap.size, 4, none⟩ = some (.int .i64 d) ∧ w'.cell? ⟨w.heap.size, 5, none⟩ = some (.slice oa on oc) ∧ w'.cell? ⟨w.heap.size, 6, none⟩ = some (.int .i64 code) ∧ w'.cell? ⟨N1, 1, none⟩ = some (.int .i64 jr) ∧ w'.cell? ⟨N1, 2, none⟩ = some (.int .i64 ja) ∧ w'.cell? ⟨N1, 3, none⟩ = some (.int .i64 jb) ∧ w'.cell? ⟨w.heap.size, 1 + ja, none⟩ = some (.int .i64 (zi [a, b, c, d] ja)) ∧ w'.cell? ⟨w.heap.size, 1 + jb, none⟩ = some (.int .i64 (zi [a, b, c, d] jb))) (go_keep)
    (first | (go_at_call 114; refine (put_any _ _ _ _ _ _ _ _ _ _ _ _ h0 h1 hj).mono ?_; rintro e w1 ⟨rfl, b1'⟩; have b1 : Below W.heap.size W w1 := (Below.refl W.heap.size W).drew.trans b1'; obtain ⟨hc1, hf1⟩ := bcell b1; have B1 : Hid (Below w.heap.size w w1) := BW.out.trans (b1.mono BW.out.size); clear b1 b1'))
  go_wp2
  refine bodyPost_ret (v := dV (p + 1) (set4 a b c d jr (zi [a, b, c, d] ja - zi [a, b, c, d] jb)).1 (set4 a b c d jr (zi [a, b, c, d] ja - zi [a, b, c, d] jb)).2.1 (set4 a b c d jr (zi [a, b, c, d] ja - zi [a, b, c, d] jb)).2.2.1 (set4 a b c d jr (zi [a, b, c, d] ja - zi [a, b, c, d] jb)).2.2.2 oa on oc code) (by simp [results, Tryz.results88, go_sem, hc1, l3, r0, r1, r2, r3, r4, r5, r6]) rfl ⟨rfl, ?_⟩
  have := B1.out
  have := HN.out
  go_grown

set_option maxRecDepth 100000 in
set_option maxHeartbeats 2000000 in
theorem step_mul (p a b c d : Int) (oa : Option Addr) (on oc : Nat) (code : Int) (jr ja jb : Nat) (n o k q v : Int) (w : World) (h0 : 0 ≤ p) (h1 : p ≤ 1000000000) (hj : jr < 4) (ha : ja < 4) (hb : jb < 4) (na1 : -1000000000 ≤ zi [a, b, c, d] ja) (na2 : zi [a, b, c, d] ja ≤ 1000000000) (nb1 : -1000000000 ≤ zi [a, b, c, d] jb) (nb2 : zi [a, b, c, d] jb ≤ 1000000000) (mb1 : -1000000000000000000 ≤ zi [a, b, c, d] ja * zi [a, b, c, d] jb) (mb2 : zi [a, b, c, d] ja * zi [a, b, c, d] jb ≤ 1000000000000000000) :
    Calls Tryz.prog 89 #[dV p a b c d oa on oc code, insV o jr ja jb n, evV k q v] w fun e w' => e = .returned (dV (p + 1) (set4 a b c d jr (zi [a, b, c, d] ja * zi [a, b, c, d] jb)).1 (set4 a b c d jr (zi [a, b, c, d] ja * zi [a, b, c, d] jb)).2.1 (set4 a b c d jr (zi [a, b, c, d] ja * zi [a, b, c, d] jb)).2.2.1 (set4 a b c d jr (zi [a, b, c, d] ja * zi [a, b, c, d] jb)).2.2.2 oa on oc code) ∧ Below w.heap.size w w' := by
  go_enter Tryz.func89, Tryz.ntmps89
  go_wp2_with fail
  generalize hW : ((((w.alloc (.cells #[.int .i64 p, .int .i64 a, .int .i64 b, .int .i64 c, .int .i64 d, .slice oa on oc, .int .i64 code] 101)).alloc (.cells #[.int .i64 o, .int .i64 jr, .int .i64 ja, .int .i64 jb, .int .i64 n] 97)).alloc (.cells #[.int .i64 k, .int .i64 q, .int .i64 v] 62)).alloc (.cells #[.int .i64 0, .int .i64 0, .int .i64 0, .int .i64 0, .int .i64 0, .slice none 0 0, .int .i64 0] 101)) = W at *
  obtain ⟨k0, k1, k2, k3, k4, k5, k6, x0, x1, x2, x3, x4, y0, y1, y2, r0, r1, r2, r3, r4, r5, r6, rf, l3, BW'⟩ := diB_w1 hW
  have BW : Hid (Below w.heap.size w W) := BW'
  clear BW'
  clear hW
  have l0 : w.heap.size < W.heap.size := by omega
  have l1 : w.heap.size + 1 < W.heap.size := by omega
  have l2 : w.heap.size + 1 + 1 < W.heap.size := by omega
  have ja' : (ja : Int) < 4 := by omega
  have ca : W.cell? ⟨w.heap.size, 1 + ja, none⟩ = some (.int .i64 (zi [a, b, c, d] ja)) := by
    match ja, ha with
    | 0, _ => exact k1
    | 1, _ => exact k2
    | 2, _ => exact k3
    | 3, _ => exact k4
  have cb : W.cell? ⟨w.heap.size, 1 + jb, none⟩ = some (.int .i64 (zi [a, b, c, d] jb)) := by
    match jb, hb with
    | 0, _ => exact k1
    | 1, _ => exact k2
    | 2, _ => exact k3
    | 3, _ => exact k4
  have jb' : (jb : Int) < 4 := by omega
  have hw : IntKind.i64.wrap (zi [a, b, c, d] ja * zi [a, b, c, d] jb) = zi [a, b, c, d] ja * zi [a, b, c, d] jb := by rw [IntKind.wrap_i64]; omega
  generalize hN3 : w.heap.size + 1 + 1 + 1 = N3 at *
  generalize hN2 : w.heap.size + 1 + 1 = N2 at *
  generalize hN1 : w.heap.size + 1 = N1 at *
  have ne1 : w.heap.size ≠ N3 := by omega
  have ne2 : N1 ≠ N3 := by omega
  have ne3 : N3 ≠ w.heap.size := by omega
  have ne4 : N3 ≠ N1 := by omega
  have HN : Hid (w.heap.size < N3) := by show w.heap.size < N3; omega
  clear hN1 hN2 hN3
  go_region_held3 (fun w' => w'.cell? ⟨w.heap.size, 0, none⟩ = some (.int .i64 p) ∧ w'.cell? ⟨w.heap.size, 1, none⟩ = some (.int .i64 a) ∧ w'.cell? ⟨w.heap.size, 2, none⟩ = some (.int .i64 b) ∧ w'.cell? ⟨w.heap.size, 3, none⟩ = some (.int .i64 c) ∧ w'.cell? ⟨w.heap.size, 4, none⟩ = some (.int .i64 d) ∧ w'.cell? ⟨w.heap.size, 5, none⟩ = some (.slice oa on oc) ∧ w'.cell? ⟨w.heap.size, 6, none⟩ = some (.int .i64 code) ∧ w'.cell? ⟨N1, 1, none⟩ = some (.int .i64 jr) ∧ w'.cell? ⟨N1, 2, none⟩ = some (.int .i64 ja) ∧ w'.cell? ⟨N1, 3, none⟩ = some (.int .i64 jb) ∧ w'.cell? ⟨w.heap.size, 1 + ja, none⟩ = some (.int .i64 (zi [a, b, c, d] ja)) ∧ w'.cell? ⟨w.heap.size, 1 + jb, none⟩ = some (.int .i64 (zi [a, b, c, d] jb))) (go_keep)
    (first | (go_at_call 114; refine (put_any _ _ _ _ _ _ _ _ _ _ _ _ h0 h1 hj).mono ?_; rintro e w1 ⟨rfl, b1'⟩; have b1 : Below W.heap.size W w1 := (Below.refl W.heap.size W).drew.trans b1'; obtain ⟨hc1, hf1⟩ := bcell b1; have B1 : Hid (Below w.heap.size w w1) := BW.out.trans (b1.mono BW.out.size); clear b1 b1'))
  go_wp2
  refine bodyPost_ret (v := dV (p + 1) (set4 a b c d jr (zi [a, b, c, d] ja * zi [a, b, c, d] jb)).1 (set4 a b c d jr (zi [a, b, c, d] ja * zi [a, b, c, d] jb)).2.1 (set4 a b c d jr (zi [a, b, c, d] ja * zi [a, b, c, d] jb)).2.2.1 (set4 a b c d jr (zi [a, b, c, d] ja * zi [a, b, c, d] jb)).2.2.2 oa on oc code) (by simp [results, Tryz.results89, go_sem, hc1, l3, r0, r1, r2, r3, r4, r5, r6]) rfl ⟨rfl, ?_⟩
  have := B1.out
  have := HN.out
  go_grown

end Go.Proofs.YtcmmlklanjhfoaaGreatDoor
