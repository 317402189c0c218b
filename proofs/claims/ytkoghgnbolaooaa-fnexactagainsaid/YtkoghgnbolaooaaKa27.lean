/- Lists of kept states that came in. -/
import Derived.Test.YtkoghgnbolaooaaKa25
import Derived.Test.YtkoghgnbolaooaaKa26
namespace Go.Proofs.Ytkoghgnbolaooaa
open Go.ChangeShapes Go.WideShapes Go.ChangeAt Go.RowKit Go.Deep

set_option maxRecDepth 100000 in
set_option maxHeartbeats 400000 in
theorem eqKept_same (n p code : Int) (ra oa ra' oa' : Option Addr) (rc oc rc' oc' : Nat) (rs os : List Int) (w : World) (hr : rs.length ≤ 1048576) (ho : os.length ≤ 1048576) (h1 : Sl w ra rs) (h2 : Sl w oa os) (h1' : Sl w ra' rs) (h2' : Sl w oa' os) :
    Calls Try.prog 30 #[kpV n p ra rs.length rc oa os.length oc code, kpV n p ra' rs.length rc' oa' os.length oc' code] w fun e w' => e = .returned (.bool true) ∧ Below w.heap.size w w' := by
  have H1 : Hid (Sl w ra rs) := h1
  have H2 : Hid (Sl w oa os) := h2
  have H3 : Hid (Sl w ra' rs) := h1'
  have H4 : Hid (Sl w oa' os) := h2'
  clear h1 h2 h1' h2'
  go_enter Try.func30, Try.ntmps30
  go_wp2_with fail
  have bz : Below w.heap.size w ((w.alloc (.cells #[.int .i64 n, .int .i64 p, .slice ra rs.length rc, .slice oa os.length oc, .int .i64 code] 51)).alloc (.cells #[.int .i64 n, .int .i64 p, .slice ra' rs.length rc', .slice oa' os.length oc', .int .i64 code] 51)) := by go_grown
  refine (eqState_same _ _ _ _ _ _ _ _ _ _ rs os _ hr ho (H1.out.below bz) (H2.out.below bz) (H3.out.below bz) (H4.out.below bz)).mono ?_
  rintro e w1 ⟨rfl, b1⟩
  go_wp2
  go_ret
  exact ⟨rfl, bz.trans (b1.mono bz.size)⟩

set_option maxRecDepth 100000 in
set_option maxHeartbeats 1000000 in
theorem eqKeptS_same (D1 h1 D2 h2 n c1 c2 : Nat) (N : Nat → Int) (S : Nat → S4) (v1 v2 : Nat → Value) (w : World) (hn : n ≤ 1048576) (hl : ∀ i, i < n → (S i).rs.length ≤ 1048576 ∧ (S i).os.length ≤ 1048576) (o1 : OutKept w D1 h1 n N S v1) (o2 : OutKept w D2 h2 n N S v2) :
    Calls Try.prog 15 #[.slice (some ⟨D1, 0, none⟩) n c1, .slice (some ⟨D2, 0, none⟩) n c2] w fun e w' => e = .returned (.bool true) ∧ Below w.heap.size w w' := by
  have hl' : (n : Int) ≤ 1048576 := by omega
  have O1 : Hid (OutKept w D1 h1 n N S v1) := o1
  have O2 : Hid (OutKept w D2 h2 n N S v2) := o2
  have HL : Hid (∀ i, i < n → (S i).rs.length ≤ 1048576 ∧ (S i).os.length ≤ 1048576) := hl
  clear o1 o2 hl
  go_enter Try.func15, Try.ntmps15
  go_wp2_with fail
  go_loopw [5] (fun i wr => ∃ k : Nat, k ≤ n ∧ i = .int .i64 k ∧ Below w.heap.size w wr) (fun i _ => n - (intOf i).toNat)
  case atStart => exact ⟨0, Nat.zero_le _, rfl, Below.refl _ _⟩
  case round =>
    obtain ⟨k, hk, rfl, hbw⟩ := hrel
    have hs := hbw.size
    by_cases hlt : k < n
    · have P1 : Hid (OutKept wr D1 h1 n N S v1) := O1.out.below hbw O1.out.le
      have P2 : Hid (OutKept wr D2 h2 n N S v2) := O2.out.below hbw O2.out.le
      obtain ⟨ra, rc, oa, oc, e1, a0, a1, a2, a3, a4⟩ := P1.out.cel k hlt
      obtain ⟨ra', rc', oa', oc', e2, b0, b1, b2, b3, b4⟩ := P2.out.cel k hlt
      have hsl1 : Sl wr ra (S k).rs ∧ Sl wr oa (S k).os := by
        obtain ⟨x1, x2, x3, x4, e, s1, s2⟩ := (P1.out.own k hlt).read
        rw [e1] at e
        simp only [Value.agg.injEq, Array.mk.injEq, List.cons.injEq, Value.slice.injEq, and_true, true_and] at e
        obtain ⟨⟨rfl, rfl⟩, rfl, rfl⟩ := e
        exact ⟨s1, s2⟩
      have hsl2 : Sl wr ra' (S k).rs ∧ Sl wr oa' (S k).os := by
        obtain ⟨x1, x2, x3, x4, e, s1, s2⟩ := (P2.out.own k hlt).read
        rw [e2] at e
        simp only [Value.agg.injEq, Array.mk.injEq, List.cons.injEq, Value.slice.injEq, and_true, true_and] at e
        obtain ⟨⟨rfl, rfl⟩, rfl, rfl⟩ := e
        exact ⟨s1, s2⟩
      have H1 : Hid (Sl wr ra (S k).rs ∧ Sl wr oa (S k).os) := hsl1
      have H2 : Hid (Sl wr ra' (S k).rs ∧ Sl wr oa' (S k).os) := hsl2
      have hlt' : (k : Int) < (n : Int) := by omega
      clear hsl1 hsl2 e1 e2

      go_wp2_with fail
      first | (go_region_with (go_at_call 30; refine (eqKept_same (N k) _ _ ra oa ra' oa' rc oc rc' oc' (S k).rs (S k).os wr.drew (HL.out k hlt).1 (HL.out k hlt).2 H1.out.1 H1.out.2 H2.out.1 H2.out.2).mono ?_; rintro e w1 ⟨rfl, hq1⟩)) | fail
      all_goals
        go_wp2
        go_roundw
        case rel => exact ⟨k + 1, by omega, by go_num, hbw.drew.trans (hq1.mono hs)⟩
        case measure => simp [intOf]; omega
    · go_wp2
      go_ret
      exact ⟨rfl, hbw⟩

end Go.Proofs.Ytkoghgnbolaooaa

namespace Go.Proofs.Ytkoghgnbolaooaa
open Go.ChangeShapes Go.WideShapes Go.ChangeAt Go.RowKit Go.Deep

theorem cellsLawKept : Try.prog.cellsOf 46 = 5 := by kernel_rfl
set_option maxRecDepth 100000 in
theorem open_keptCells {H : Type} {enc : TypeId × Value → H} {w : World} {base fuel : Nat} {held : Bool} {c0 c1 c2 c3 c4 : Value} {x : DataW H × List MemPlace}
    (hf' : DataW.trod enc Try.prog w base (fun _ => true) held fuel 46 [c0, c1, c2, c3, c4] = some x) :
    ∃ q : K9, (c0 = .int .i64 q.n ∧ c1 = .int .i64 q.p ∧ c2 = .slice q.ra q.rs.length q.rc ∧ c3 = .slice q.oa q.os.length q.oc ∧ c4 = .int .i64 q.c) ∧ (q.rs.length ≤ maxLen ∧ q.os.length ≤ maxLen ∧ (Lit.int .i64 q.n).wf = true) ∧ Sl w q.ra q.rs ∧ Sl w q.oa q.os := by
  obtain ⟨xs, m, -, -, -, hl, hx⟩ := DataW.trod_struct Try.underlying46 hf'
  have hl : xs.length = 2 := hl
  have q0 : DataW.trod enc Try.prog w base (fun _ => true) held m 3 [c0] = xs[0]? := by simpa [cellsInt] using hx 0 _ rfl
  have q1 : DataW.trod enc Try.prog w base (fun _ => true) held m 44 [c1, c2, c3, c4] = xs[1]? := by simpa [cellsLawState] using hx 1 _ rfl
  rw [List.getElem?_eq_getElem (by omega)] at q0 q1
  obtain ⟨z0, e0, -, hw⟩ := DataW.trod_int Try.underlying3 q0
  obtain ⟨q, ⟨rfl, rfl, rfl, rfl⟩, hb, hs⟩ := open_stateCells q1
  simp only [List.cons.injEq, and_true] at e0
  subst e0
  exact ⟨⟨q, z0⟩, ⟨rfl, rfl, rfl, rfl, rfl⟩, ⟨hb.1, hb.2, hw⟩, hs⟩

theorem open_KeptS {H : Type} {enc : TypeId × Value → H} {w : World} {held : Bool} {base : Nat} {a0 : Option Addr} {len cap : Nat} {d : DataW H} {p : List MemPlace}
    (h : DataW.Trod enc Try.prog w base (fun _ => true) held 24 (.slice a0 len cap) d p) :
    len ≤ maxLen ∧ ∃ q, AllKept w a0 len q ∧ (∀ i, i < len → (q i).rs.length ≤ maxLen ∧ (q i).os.length ≤ maxLen) ∧ ∀ i, i < len → (Lit.int .i64 (q i).n).wf = true := by
  obtain ⟨fuel, hf⟩ := h
  have inh : Inhabited K9 := ⟨⟨⟨0, none, 0, [], none, 0, [], 0⟩, 0⟩⟩
  rcases Go.Deep.open_slice Try.underlying24 hf with ⟨hcs, _⟩ | ⟨a, len', cap', m, n, D, Pl, hcs, _, hl, hm, hmm, _, hx⟩
  · simp [Value.cells] at hcs
    obtain ⟨_, rfl, _⟩ := hcs
    exact ⟨Nat.zero_le _, fun _ => default, ⟨.inl rfl, fun i hi => by omega⟩, fun i hi => by omega, fun i hi => by omega⟩
  · simp [Value.cells] at hcs
    obtain ⟨rfl, rfl, rfl⟩ := hcs
    refine ⟨Nat.le_trans hl hm, ?_⟩
    have hle : len ≤ m := by rw [hmm]; split <;> omega
    rw [cellsLawKept] at hx
    obtain ⟨b, off, spot⟩ := a
    have hcell : ∀ i, i < len → ∃ q : K9, (w.cell? (Addr.add (Addr.add ⟨b, off, spot⟩ (i * 5)) 0) = some (.int .i64 q.n) ∧ w.cell? (Addr.add (Addr.add ⟨b, off, spot⟩ (i * 5)) 1) = some (.int .i64 q.p) ∧ w.cell? (Addr.add (Addr.add ⟨b, off, spot⟩ (i * 5)) 2) = some (.slice q.ra q.rs.length q.rc) ∧ w.cell? (Addr.add (Addr.add ⟨b, off, spot⟩ (i * 5)) 3) = some (.slice q.oa q.os.length q.oc) ∧ w.cell? (Addr.add (Addr.add ⟨b, off, spot⟩ (i * 5)) 4) = some (.int .i64 q.c)) ∧ (q.rs.length ≤ maxLen ∧ q.os.length ≤ maxLen ∧ (Lit.int .i64 q.n).wf = true) ∧ Sl w q.ra q.rs ∧ Sl w q.oa q.os := by
      intro i hi
      obtain ⟨cs', h1, h2⟩ := hx i (by omega)
      obtain ⟨_, hlen, hc⟩ := World.cells?_some h1
      match cs', hlen with
      | [c0, c1, c2, c3, c4], _ =>
        obtain ⟨q, ⟨rfl, rfl, rfl, rfl, rfl⟩, hb, hs⟩ := open_keptCells h2
        exact ⟨q, ⟨hc 0 (by omega), hc 1 (by omega), hc 2 (by omega), hc 3 (by omega), hc 4 (by omega)⟩, hb, hs⟩
    obtain ⟨g, hg⟩ := Go.Deep.choose_lt (α := K9) hcell
    refine ⟨g, ⟨?_, fun i hi => (hg i hi).2.2⟩, fun i hi => ⟨(hg i hi).2.1.1, (hg i hi).2.1.2.1⟩, fun i hi => (hg i hi).2.1.2.2⟩
    by_cases h0 : len = 0
    · exact .inl h0
    have hspot : spot = none := by
      have hx0 := (hg 0 (by omega)).1.1
      simpa [Addr.add] using World.cell?_spot hx0
    subst hspot
    have hI : ∀ i, i < len → w.cell? ⟨b, off + i * 5, none⟩ = some (.int .i64 (g i).n) ∧ w.cell? ⟨b, off + i * 5 + 1, none⟩ = some (.int .i64 (g i).p) ∧ w.cell? ⟨b, off + i * 5 + 2, none⟩ = some (.slice (g i).ra (g i).rs.length (g i).rc) ∧ w.cell? ⟨b, off + i * 5 + 3, none⟩ = some (.slice (g i).oa (g i).os.length (g i).oc) ∧ w.cell? ⟨b, off + i * 5 + 4, none⟩ = some (.int .i64 (g i).c) := by
      intro i hi
      obtain ⟨⟨q0, q1, q2, q3, q4⟩, -⟩ := hg i hi
      rw [addr_addO, addr_addO] at q0 q1 q2 q3 q4
      exact ⟨q0, q1, q2, q3, q4⟩
    exact .inr ⟨b, off, rfl, cell_lt (hI 0 (by omega)).1, hI⟩

end Go.Proofs.Ytkoghgnbolaooaa
