/- The walks of the laws' own helpers over states and events. -/
import Derived.Test.YtmbmhpginegggaaStA
namespace Go.Proofs.Ytmbmhpginegggaa
open Go.RowKit

abbrev evV (k p v : Int) : Value := .agg #[.int .i64 k, .int .i64 p, .int .i64 v]

theorem bcell {W w1 : World} (hb : Below W.heap.size W w1) : (∀ b o, b < W.heap.size → w1.cell? ⟨b, o, none⟩ = W.cell? ⟨b, o, none⟩) ∧ (∀ b o, b < W.heap.size → w1.frozen? ⟨b, o, none⟩ = W.frozen? ⟨b, o, none⟩) :=
  ⟨fun b o h => hb.cell (p := ⟨b, o, none⟩) h, fun b o h => hb.frozen (p := ⟨b, o, none⟩) h⟩

theorem OwnI.setBelow {w : World} {B : Nat} {v : Value} {xs : List Int} (h : OwnI w B v xs) {a : Addr} (ha : a.block < B) (u : Value) : OwnI (w.setCell a u) B v xs := ownsRow_setCell_below h ha u

/-- The value v is a state of its own, its two lists apart. -/
def StOwn (w : World) (B : Nat) (v : Value) (p : Int) (rs os : List Int) (code : Int) : Prop :=
  ∃ vr vo, v = .agg #[.int .i64 p, vr, vo, .int .i64 code] ∧ OwnI w B vr rs ∧ OwnI w B vo os ∧ ∀ k, vr.ownBlock = some k → vo.ownBlock ≠ some k

theorem StOwn.below {w w' : World} {B : Nat} {v : Value} {p code : Int} {rs os : List Int} (h : StOwn w B v p rs os code) (hb : Below w.heap.size w w') : StOwn w' B v p rs os code := by
  obtain ⟨vr, vo, e, h1, h2, h3⟩ := h
  exact ⟨vr, vo, e, h1.below hb, h2.below hb, h3⟩
theorem StOwn.mono {w : World} {B B' : Nat} {v : Value} {p code : Int} {rs os : List Int} (h : StOwn w B v p rs os code) (hb : B' ≤ B) : StOwn w B' v p rs os code := by
  obtain ⟨vr, vo, e, h1, h2, h3⟩ := h
  exact ⟨vr, vo, e, h1.mono hb, h2.mono hb, h3⟩
theorem StOwn.read {w : World} {B : Nat} {v : Value} {p code : Int} {rs os : List Int} (h : StOwn w B v p rs os code) : ∃ ra rc oa oc, v = stV p ra rs.length rc oa os.length oc code ∧ Sl w ra rs ∧ Sl w oa os := by
  obtain ⟨vr, vo, rfl, h1, h2, _⟩ := h
  obtain ⟨ra, rc, rfl, s1⟩ := h1.form
  obtain ⟨oa, oc, rfl, s2⟩ := h2.form
  exact ⟨ra, rc, oa, oc, rfl, s1, s2⟩

theorem below_up {w w0 w1 : World} {B : Nat} (h : Below B w w0) (h1 : Below w0.heap.size w0 w1) (hB : B ≤ w0.heap.size) : Below B w w1 := h.trans (h1.mono hB)

set_option maxRecDepth 100000 in
set_option maxHeartbeats 1000000 in
theorem toState_any (p code : Int) (ra oa : Option Addr) (rc oc : Nat) (rs os : List Int) (w : World) (hr : rs.length ≤ 1048576) (ho : os.length ≤ 1048576) (h1 : Sl w ra rs) (h2 : Sl w oa os) :
    Calls Try.prog 26 #[stV p ra rs.length rc oa os.length oc code] w fun e w' => ∃ v, e = .returned v ∧ StOwn w' w.heap.size v p rs os code ∧ Below w.heap.size w w' := by
  have H1 : Hid (Sl w ra rs) := h1
  have H2 : Hid (Sl w oa os) := h2
  clear h1 h2
  go_enter Try.func26, Try.ntmps26
  go_wp2_with fail
  refine (toIntS_any ra rc rs _ hr (H1.out.below (by go_grown))).mono ?_
  rintro e w1 ⟨rfl, o1, z1, b1⟩
  have B1 : Hid (Below w.heap.size w w1) := below_up (by go_grown) b1 (by simp; omega)
  obtain ⟨hc1, hf1⟩ := bcell b1
  simp only [World.size_alloc] at o1 z1
  have O1 : Hid (OwnI w1 (w.heap.size + 1 + 1 + 1) (.slice (some ⟨w.heap.size + 1 + 1 + 1, 0, none⟩) rs.length rs.length) rs) := o1
  clear o1 b1
  have BS : Below w.heap.size w (w1.setCell ⟨w.heap.size + 1 + 1, 1, none⟩ (.slice (some ⟨w.heap.size + 1 + 1 + 1, 0, none⟩) rs.length rs.length)) := B1.out.setCell (by simp; omega) _
  have HBS : Hid (Below w.heap.size w (w1.setCell ⟨w.heap.size + 1 + 1, 1, none⟩ (.slice (some ⟨w.heap.size + 1 + 1 + 1, 0, none⟩) rs.length rs.length))) := BS
  have O1' : Hid (OwnI (w1.setCell ⟨w.heap.size + 1 + 1, 1, none⟩ (.slice (some ⟨w.heap.size + 1 + 1 + 1, 0, none⟩) rs.length rs.length)) (w.heap.size + 1 + 1 + 1) (.slice (some ⟨w.heap.size + 1 + 1 + 1, 0, none⟩) rs.length rs.length) rs) := ownsRow_setCell_below O1.out (by simp) _
  clear BS O1 B1
  have y0 : w.heap.size < w1.heap.size := by omega
  have y1 : w.heap.size + 1 < w1.heap.size := by omega
  have y2 : w.heap.size + 1 + 1 < w1.heap.size := by omega
  go_wp2_with fail
  refine (toIntS_any oa oc os _ ho (H2.out.below HBS.out)).mono ?_
  rintro e w2 ⟨rfl, o2, z2, b2⟩
  have B2 : Hid (Below w.heap.size w w2) := below_up HBS.out b2 (by simp; omega)
  obtain ⟨hc2, hf2⟩ := bcell b2
  have O1'' : Hid (OwnI w2 (w.heap.size + 1 + 1 + 1) (.slice (some ⟨w.heap.size + 1 + 1 + 1, 0, none⟩) rs.length rs.length) rs) := O1'.out.below b2
  simp only [World.size_setCell] at o2 z2
  have O2 : Hid (OwnI w2 w1.heap.size (.slice (some ⟨w1.heap.size, 0, none⟩) os.length os.length) os) := o2
  clear o2 b2 O1' HBS
  go_wp2
  refine bodyPost_ret (v := stV p (some ⟨w.heap.size + 1 + 1 + 1, 0, none⟩) rs.length rs.length (some ⟨w1.heap.size, 0, none⟩) os.length os.length code) (by simp [results, Try.results26, go_sem, hc2, hc1, y1]) rfl ⟨_, rfl, ⟨_, _, rfl, ?_, ?_, ?_⟩, ?_⟩
  · refine OwnI.mono (B := w.heap.size + 1 + 1 + 1) ?_ (by omega)
    repeat (refine OwnI.setBelow ?_ (by simp) _)
    exact O1''.out
  · refine OwnI.mono (B := w1.heap.size) ?_ (by omega)
    repeat (refine OwnI.setBelow ?_ (by simpa using by omega) _)
    exact O2.out
  · intro k hk hk'
    simp [Value.ownBlock] at hk hk'
    omega
  · have := B2.out
    go_grown

set_option maxHeartbeats 400000 in
theorem szState_small (p code : Int) (ra oa : Option Addr) (rn rc on oc : Nat) (x : Int) (w : World) (h : (rn : Int) + on ≤ x) (hx : x ≤ 1048576) :
    Calls Try.prog 24 #[stV p ra rn rc oa on oc code, .int .i64 x] w fun e w' => e = .returned (.int .i64 (x - rn - on)) ∧ Below w.heap.size w w' := by
  have h1 : (rn : Int) ≤ x := by omega
  have h2 : (on : Int) ≤ x - rn := by omega
  have h3 : ¬ x - (rn : Int) < 0 := by omega
  have h4 : ¬ x - (rn : Int) - on < 0 := by omega
  go_enter Try.func24, Try.ntmps24
  go_wp2_with fail
  refine (szIntS_small _ _ _ _ _ h1 hx).mono ?_
  rintro e w1 ⟨rfl, rfl⟩
  go_wp2_with fail
  refine (szIntS_small _ _ _ _ _ h2 (by omega)).mono ?_
  rintro e w1 ⟨rfl, rfl⟩
  go_wp2
  go_ret
  exact ⟨rfl, by go_grown⟩

set_option maxHeartbeats 400000 in
theorem szState_great (p code : Int) (ra oa : Option Addr) (rn rc on oc : Nat) (x : Int) (w : World) (h : x < (rn : Int) + on) (hx : x ≤ 1048576) (hx0 : 0 ≤ x) (hr : rn ≤ maxLen) (ho : on ≤ maxLen) :
    Calls Try.prog 24 #[stV p ra rn rc oa on oc code, .int .i64 x] w fun e w' => e = .returned (.int .i64 (-1)) ∧ Below w.heap.size w w' := by
  by_cases h1 : (rn : Int) ≤ x
  · have h2 : x - (rn : Int) < on := by omega
    have h3 : ¬ x - (rn : Int) < 0 := by omega
    go_enter Try.func24, Try.ntmps24
    go_wp2_with fail
    refine (szIntS_small _ _ _ _ _ h1 hx).mono ?_
    rintro e w1 ⟨rfl, rfl⟩
    go_wp2_with fail
    refine (szIntS_great _ _ _ _ _ h2 (by omega) ho).mono ?_
    rintro e w1 ⟨rfl, rfl⟩
    go_wp2
    go_ret
    exact ⟨rfl, by go_grown⟩
  · have h1' : x < (rn : Int) := by omega
    go_enter Try.func24, Try.ntmps24
    go_wp2_with fail
    refine (szIntS_great _ _ _ _ _ h1' hx0 hr).mono ?_
    rintro e w1 ⟨rfl, rfl⟩
    go_wp2
    go_ret
    exact ⟨rfl, by go_grown⟩

set_option maxRecDepth 100000 in
set_option maxHeartbeats 1000000 in
theorem eqState_same (p code : Int) (ra oa ra' oa' : Option Addr) (rc oc rc' oc' : Nat) (rs os : List Int) (w : World) (hr : rs.length ≤ 1048576) (ho : os.length ≤ 1048576) (h1 : Sl w ra rs) (h2 : Sl w oa os) (h1' : Sl w ra' rs) (h2' : Sl w oa' os) :
    Calls Try.prog 29 #[stV p ra rs.length rc oa os.length oc code, stV p ra' rs.length rc' oa' os.length oc' code] w fun e w' => e = .returned (.bool true) ∧ Below w.heap.size w w' := by
  have H1 : Hid (Sl w ra rs) := h1
  have H2 : Hid (Sl w oa os) := h2
  have H1' : Hid (Sl w ra' rs) := h1'
  have H2' : Hid (Sl w oa' os) := h2'
  clear h1 h2 h1' h2'
  go_enter Try.func29, Try.ntmps29
  go_wp2_with fail
  refine (eqIntS_same ra ra' rc rc' rs _ hr (H1.out.below (by go_grown)) (H1'.out.below (by go_grown))).mono ?_
  rintro e w1 ⟨rfl, b1⟩
  have B1 : Hid (Below w.heap.size w w1) := below_up (by go_grown) b1 (by simp; omega)
  obtain ⟨hc1, hf1⟩ := bcell b1
  have y1 : w.heap.size + 1 < w1.heap.size := by have := b1.size; simp at this; omega
  have y0 : w.heap.size < w1.heap.size := by omega
  clear b1
  go_wp2_with fail
  refine (eqIntS_same oa oa' oc oc' os _ ho (H2.out.below B1.out) (H2'.out.below B1.out)).mono ?_
  rintro e w2 ⟨rfl, b2⟩
  have B2 : Hid (Below w.heap.size w w2) := below_up B1.out b2 B1.out.size
  obtain ⟨hc2, hf2⟩ := bcell b2
  clear b2 B1
  go_wp2
  go_ret
  exact ⟨rfl, B2.out⟩

end Go.Proofs.Ytmbmhpginegggaa
