/- The walk of the program's Next: it answers what nxK, nxP and nxW say. -/
import Derived.Test.YtkoghgnbolaooaaKa10
import Derived.Test.YtkoghgnbolaooaaKa12
namespace Go.Proofs.Ytkoghgnbolaooaa
open Go.RowKit

def rightB (g : Nat → I5) (len : Nat) (p : Int) (rs os : List Int) (code : Int) : Bool := progOkB g len 4 && stOkB len p rs os code && (code == 0)
def nxK (g : Nat → I5) (len : Nat) (p : Int) (rs os : List Int) (code : Int) : Int := if rightB g len p rs os code = true then evK (g p.toNat).o else 0
def nxP (g : Nat → I5) (len : Nat) (p : Int) (rs os : List Int) (code : Int) : Int := if rightB g len p rs os code = true then evP (g p.toNat).o (g p.toNat).n else 0
def nxW (g : Nat → I5) (len : Nat) (p : Int) (rs os : List Int) (code : Int) : Int := if rightB g len p rs os code = true then evW (g p.toNat).o (g p.toNat).a rs else 0

theorem next_wrong {g : Nat → I5} {len : Nat} {p : Int} {rs os : List Int} {code : Int} (h : rightB g len p rs os code = false) : evV (nxK g len p rs os code) (nxP g len p rs os code) (nxW g len p rs os code) = evV 0 0 0 := by
  simp [nxK, nxP, nxW, h]
theorem next_right {g : Nat → I5} {len k : Nat} {rs os : List Int} {code : Int} (h : rightB g len (k : Int) rs os code = true) : evV (nxK g len k rs os code) (nxP g len k rs os code) (nxW g len k rs os code) = evV (evK (g k).o) (evP (g k).o (g k).n) (evW (g k).o (g k).a rs) := by
  simp [nxK, nxP, nxW, h]

theorem ret_ev {a b : Value} (h : a = b) : Ending.returned a = .returned b := by rw [h]

/-- What is known of a place of a right program. -/
theorem right_ins {g : Nat → I5} {len : Nat} {procs : Int} (h : progOkB g len procs = true) {k : Nat} (hk : k < len) : insOkB (g k).o (g k).r (g k).a (g k).b (g k).n len procs = true := by
  simp only [progOkB, Bool.and_eq_true] at h
  have h1 := h.1
  rw [allOk, List.all_eq_true] at h1
  exact h1 k (List.mem_range.2 hk)
theorem ins_range {o r a b n places procs : Int} (h : insOkB o r a b n places procs = true) : (1 ≤ o ∧ o ≤ 11) ∧ (0 ≤ r ∧ r ≤ 3) ∧ (0 ≤ a ∧ a ≤ 3) ∧ (0 ≤ b ∧ b ≤ 3) := by
  simp only [insOkB, Bool.and_eq_true] at h
  obtain ⟨⟨⟨⟨h1, h2⟩, h3⟩, _⟩, h5⟩ := h
  simp only [inB, decide_eq_true_eq] at h1 h2 h3
  refine ⟨?_, h1, h2, h3⟩
  apply Classical.byContradiction
  intro hn
  rw [opOkB_none _ _ _ _ _ _ _ (by omega)] at h5
  cases h5
theorem right_parts {g : Nat → I5} {len : Nat} {p : Int} {rs os : List Int} {code : Int} (h : rightB g len p rs os code = true) : progOkB g len 4 = true ∧ stOkB len p rs os code = true ∧ code = 0 := by
  simp only [rightB, Bool.and_eq_true, beq_iff_eq] at h
  exact ⟨h.1.1, h.1.2, h.2⟩
theorem st_parts {n : Nat} {p : Int} {rs os : List Int} {code : Int} (h : stOkB n p rs os code = true) : (∃ r0 r1 r2 r3, rs = [r0, r1, r2, r3] ∧ numB r0 = true ∧ numB r1 = true ∧ numB r2 = true ∧ numB r3 = true) ∧ (∃ k : Nat, p = k ∧ k < n) ∧ os.length ≤ 60 ∧ allN os = true := by
  simp only [stOkB, regsB, outB, Bool.and_eq_true, beq_iff_eq, decide_eq_true_eq] at h
  obtain ⟨⟨⟨⟨h4, hr⟩, _⟩, hp⟩, h60, ho⟩ := h
  have h4' : rs.length = 4 := by omega
  refine ⟨?_, ?_, by omega, ho⟩
  · match rs, h4' with
    | [r0, r1, r2, r3], _ =>
      simp only [allN, List.all_cons, List.all_nil, Bool.and_eq_true, and_true] at hr
      exact ⟨r0, r1, r2, r3, rfl, hr⟩
  · simp only [belB, decide_eq_true_eq] at hp
    obtain ⟨k, rfl⟩ := Int.eq_ofNat_of_zero_le hp.1
    exact ⟨k, rfl, by omega⟩

set_option maxRecDepth 100000 in
set_option maxHeartbeats 1000000 in
theorem nextIn_wrong (b off len cap : Nat) (g : Nat → I5) (p code : Int) (ra oa : Option Addr) (rc oc : Nat) (rs os : List Int) (w : World) (ho : os.length ≤ 1048576) (h1 : Sl w ra rs) (h2 : Sl w oa os) (t2 : progOkB g len 4 = true) (hw : rightB g len p rs os code = false) :
    Calls Try.prog 61 #[.slice (some ⟨b, off, none⟩) len cap, stV p ra rs.length rc oa os.length oc code] w fun e w' => e = .returned (evV 0 0 0) ∧ Below w.heap.size w w' := by
  have H1 : Hid (Sl w ra rs) := h1
  have H2 : Hid (Sl w oa os) := h2
  clear h1 h2
  rcases Bool.eq_false_or_eq_true (code != 0) with t0 | t0
  · clear hw t2
    go_enter Try.func61, Try.ntmps61
    go_wp2
    refine bodyPost_ret (v := evV 0 0 0) (by simp [results, Try.results61, go_sem]) rfl ⟨rfl, ?_⟩
    go_grown
  have hc : (code == 0) = true := by simpa using t0
  have t1 : stOkB len p rs os code = false := by
    simp only [rightB, t2, hc, Bool.and_true, Bool.true_and] at hw
    exact hw
  clear hw hc t2
  go_enter Try.func61, Try.ntmps61
  go_wp2_with fail
  refine (implStateOk_any _ _ _ _ _ _ _ _ _ rs os _ ho (H1.out.below (by go_grown)) (H2.out.below (by go_grown))).mono ?_
  rintro e w1 ⟨rfl, b1⟩
  have B1 : Hid (Below w.heap.size w w1) := below_up (by go_grown) b1 (by simp; omega)
  obtain ⟨hc1, hf1⟩ := bcell b1
  clear b1
  go_wp2
  refine bodyPost_ret (v := evV 0 0 0) (by simp [results, Try.results61, go_sem, hc1]) rfl ⟨rfl, ?_⟩
  have := B1.out
  go_grown

end Go.Proofs.Ytkoghgnbolaooaa
