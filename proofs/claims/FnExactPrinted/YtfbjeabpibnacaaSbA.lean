/- Rows of places and states in memory; the walks of the laws' own helpers on them. -/
import Derived.Test.YtfbjeabpibnacaaCnA
namespace Go.Proofs.Ytfbjeabpibnacaa
open Go.ChangeShapes Go.WideShapes Go.ChangeAt Go.RowKit Go.Deep

def inB (x lo hi : Int) : Bool := decide (lo ≤ x ∧ x ≤ hi)

set_option maxHeartbeats 400000 in
theorem l1In_any (x lo hi : Int) (w : World) :
    Calls Try.prog 17 #[.int .i64 x, .int .i64 lo, .int .i64 hi] w fun e w' => e = .returned (.bool (inB x lo hi)) ∧ w' = w := by
  by_cases h1 : lo ≤ x
  · by_cases h2 : x ≤ hi
    · go_enter Try.func17, Try.ntmps17
      go_wp2
      go_ret
      exact ⟨by simp [inB, h1, h2], rfl⟩
    · go_enter Try.func17, Try.ntmps17
      go_wp2
      go_ret
      exact ⟨by simp [inB, h1, h2], rfl⟩
  · go_enter Try.func17, Try.ntmps17
    go_wp2
    go_ret
    exact ⟨by simp [inB]; omega, rfl⟩

abbrev insV (op r a b n : Int) : Value := .agg #[.int .i64 op, .int .i64 r, .int .i64 a, .int .i64 b, .int .i64 n]

set_option maxHeartbeats 400000 in
theorem toIns_any (op r a b n : Int) (w : World) :
    Calls Try.prog 48 #[insV op r a b n] w fun e w' => e = .returned (insV op r a b n) ∧ Below w.heap.size w w' := by
  go_enter Try.func48, Try.ntmps48
  go_wp2
  refine bodyPost_ret (v := insV op r a b n) (by simp [results, Try.results48, go_sem]) rfl ⟨rfl, ?_⟩
  go_grown

structure I5 where
  o : Int
  r : Int
  a : Int
  b : Int
  n : Int

/-- From cell off of block b on there lie len places, the i-th being g i. -/
def InsAt (w : World) (b off len : Nat) (g : Nat → I5) : Prop := ∀ i, i < len →
  w.cell? ⟨b, off + i * 5, none⟩ = some (.int .i64 (g i).o) ∧ w.cell? ⟨b, off + i * 5 + 1, none⟩ = some (.int .i64 (g i).r) ∧ w.cell? ⟨b, off + i * 5 + 2, none⟩ = some (.int .i64 (g i).a) ∧ w.cell? ⟨b, off + i * 5 + 3, none⟩ = some (.int .i64 (g i).b) ∧ w.cell? ⟨b, off + i * 5 + 4, none⟩ = some (.int .i64 (g i).n)

theorem InsAt.below {w w' : World} {B b off len : Nat} {g : Nat → I5} (h : InsAt w b off len g) (hb : Below B w w') (hB : b < B) : InsAt w' b off len g := by
  intro i hi
  obtain ⟨h0, h1, h2, h3, h4⟩ := h i hi
  exact ⟨(hb.cell hB).trans h0, (hb.cell hB).trans h1, (hb.cell hB).trans h2, (hb.cell hB).trans h3, (hb.cell hB).trans h4⟩

theorem infoIns : (Try.prog.info? 87).map (fun i => (i.zero, i.size, i.bytes)) = some (some (insV 0 0 0 0 0), 5, 40) := by kernel_rfl

theorem run_make_ins (n : Nat) (hn : n ≤ 1048576) (w : World) :
    (Instr.makeSlice 72 (.int .i64 (n : Int)) (.int .i64 (n : Int))).run Try.prog w = .ok (.slice (some ⟨w.heap.size, 0, none⟩) n n) (w.alloc (.cells (madeCells (insV 0 0 0 0 0).cells (n * 5)) 87)) := by
  have hinfo := infoIns
  cases hi : Try.prog.info? 87 with
  | none => rw [hi] at hinfo; cases hinfo
  | some i =>
    rw [hi] at hinfo
    simp only [Option.map_some, Option.some.injEq, Prod.mk.injEq] at hinfo
    obtain ⟨hz, hs, hb⟩ := hinfo
    have h := run_make (P := Try.prog) w 72 87 i _ Try.underlying72 hi hz .i64 .i64 (n : Int) (n : Int) (by omega) (Int.le_refl _) (by rw [hb]; omega) (by omega)
    rw [hs] at h
    simpa using h

theorem madeIns_row (w : World) (n : Nat) : (w.alloc (.cells (madeCells (insV 0 0 0 0 0).cells (n * 5)) 87)).rowIs w.heap.size 87 (n * 5) (fun _ => .int .i64 0) := by
  refine ⟨_, blk_alloc_new _ _, size_madeCells _ _, fun i hi => ?_⟩
  have h5 : i % 5 < 5 := Nat.mod_lt _ (by omega)
  have : ∀ j, j < 5 → (#[Value.int .i64 0, .int .i64 0, .int .i64 0, .int .i64 0, .int .i64 0] : Array Value)[j]! = .int .i64 0 := by
    intro j hj
    match j, hj with
    | 0, _ => rfl
    | 1, _ => rfl
    | 2, _ => rfl
    | 3, _ => rfl
    | 4, _ => rfl
  simp only [madeCells, Value.cells]
  rw [Array.getElem?_map, Array.getElem?_range, if_pos hi]
  exact congrArg some (this (i % 5) h5)

/-- The first k places of a row that is being filled. -/
def Filled (f : Nat → Value) (g : Nat → I5) (k : Nat) : Prop := ∀ i, i < k →
  f (i * 5) = .int .i64 (g i).o ∧ f (i * 5 + 1) = .int .i64 (g i).r ∧ f (i * 5 + 2) = .int .i64 (g i).a ∧ f (i * 5 + 3) = .int .i64 (g i).b ∧ f (i * 5 + 4) = .int .i64 (g i).n

theorem Filled.at {w : World} {b : Nat} {t : TypeId} {len k : Nat} {f : Nat → Value} {g : Nat → I5} (h : Filled f g k) (hr : w.rowIs b t (len * 5) f) (hk : k ≤ len) : InsAt w b 0 k g := by
  intro i hi
  obtain ⟨h0, h1, h2, h3, h4⟩ := h i hi
  refine ⟨?_, ?_, ?_, ?_, ?_⟩
  · rw [hr.cell (by omega), Nat.zero_add, h0]
  · rw [hr.cell (by omega), Nat.zero_add, h1]
  · rw [hr.cell (by omega), Nat.zero_add, h2]
  · rw [hr.cell (by omega), Nat.zero_add, h3]
  · rw [hr.cell (by omega), Nat.zero_add, h4]

theorem Filled.step {w : World} {b : Nat} {t : TypeId} {len k : Nat} {f : Nat → Value} {g : Nat → I5} (hr : w.rowIs b t (len * 5) f) (h : Filled f g k) :
    ∃ f', (((((w.setCell ⟨b, k * 5, none⟩ (.int .i64 (g k).o)).setCell ⟨b, k * 5 + 1, none⟩ (.int .i64 (g k).r)).setCell ⟨b, k * 5 + 2, none⟩ (.int .i64 (g k).a)).setCell ⟨b, k * 5 + 3, none⟩ (.int .i64 (g k).b)).setCell ⟨b, k * 5 + 4, none⟩ (.int .i64 (g k).n)).rowIs b t (len * 5) f' ∧ Filled f' g (k + 1) := by
  refine ⟨_, ((((hr.set _ _).set _ _).set _ _).set _ _).set _ _, fun i hi => ?_⟩
  by_cases hik : i = k
  · subst hik
    simp
  · have hlt : i < k := by omega
    obtain ⟨h0, h1, h2, h3, h4⟩ := h i hlt
    refine ⟨?_, ?_, ?_, ?_, ?_⟩
    · rw [if_neg (by omega), if_neg (by omega), if_neg (by omega), if_neg (by omega), if_neg (by omega)]; exact h0
    · rw [if_neg (by omega), if_neg (by omega), if_neg (by omega), if_neg (by omega), if_neg (by omega)]; exact h1
    · rw [if_neg (by omega), if_neg (by omega), if_neg (by omega), if_neg (by omega), if_neg (by omega)]; exact h2
    · rw [if_neg (by omega), if_neg (by omega), if_neg (by omega), if_neg (by omega), if_neg (by omega)]; exact h3
    · rw [if_neg (by omega), if_neg (by omega), if_neg (by omega), if_neg (by omega), if_neg (by omega)]; exact h4

set_option maxHeartbeats 400000 in
theorem eqIns_same (op r a b n : Int) (w : World) :
    Calls Try.prog 52 #[insV op r a b n, insV op r a b n] w fun e w' => e = .returned (.bool true) ∧ Below w.heap.size w w' := by
  go_enter Try.func52, Try.ntmps52
  go_wp2
  go_ret
  exact ⟨rfl, by go_grown⟩

set_option maxRecDepth 100000 in
set_option maxHeartbeats 1000000 in
theorem eqInsS_same (b1 b2 len c1 c2 : Nat) (g : Nat → I5) (w : World) (hlen : len ≤ 1048576) (hb1 : b1 < w.heap.size) (hb2 : b2 < w.heap.size) (hc1 : InsAt w b1 0 len g) (hc2 : InsAt w b2 0 len g) :
    Calls Try.prog 40 #[.slice (some ⟨b1, 0, none⟩) len c1, .slice (some ⟨b2, 0, none⟩) len c2] w fun e w' => e = .returned (.bool true) ∧ Below w.heap.size w w' := by
  have hl' : (len : Int) ≤ 1048576 := by omega
  have HC1 : Hid (InsAt w b1 0 len g) := hc1
  have HC2 : Hid (InsAt w b2 0 len g) := hc2
  clear hc1 hc2
  go_enter Try.func40, Try.ntmps40
  go_wp2_with fail
  go_loopw [5] (fun i wr => ∃ k : Nat, k ≤ len ∧ i = .int .i64 k ∧ Below w.heap.size w wr) (fun i _ => len - (intOf i).toNat)
  case atStart => exact ⟨0, Nat.zero_le _, rfl, Below.refl _ _⟩
  case round =>
    obtain ⟨k, hk, rfl, hbw⟩ := hrel
    have hs := hbw.size
    by_cases hlt : k < len
    · obtain ⟨c0, c1, c2, c3, c4⟩ := HC1.out.below hbw hb1 k hlt
      obtain ⟨d0, d1, d2, d3, d4⟩ := HC2.out.below hbw hb2 k hlt
      have hlt' : (k : Int) < (len : Int) := by omega
      rw [Nat.zero_add] at c0 c1 c2 c3 c4 d0 d1 d2 d3 d4
      go_wp2_with fail
      first | (go_region_with (go_at_call 52; refine (eqIns_same _ _ _ _ _ _).mono ?_; rintro e w1 ⟨rfl, hq1⟩)) | fail
      all_goals
        go_wp2
        go_roundw
        case rel => exact ⟨k + 1, by omega, by go_num, hbw.drew.trans (hq1.mono hs)⟩
        case measure => simp [intOf]; omega
    · go_wp2
      go_ret
      exact ⟨rfl, hbw⟩

set_option maxHeartbeats 400000 in
theorem szIntS_small (a0 : Option Addr) (len cap : Nat) (x : Int) (w : World) (h : (len : Int) ≤ x) (hx : x ≤ 1048576) :
    Calls Try.prog 47 #[.slice a0 len cap, .int .i64 x] w fun e w' => e = .returned (.int .i64 (x - (len : Int))) ∧ w' = w := by
  go_enter Try.func47, Try.ntmps47
  go_wp2
  go_ret
  exact ⟨rfl, rfl⟩

set_option maxHeartbeats 400000 in
theorem szIntS_great (a0 : Option Addr) (len cap : Nat) (x : Int) (w : World) (h : x < (len : Int)) (hx : 0 ≤ x) (hm : len ≤ maxLen) :
    Calls Try.prog 47 #[.slice a0 len cap, .int .i64 x] w fun e w' => e = .returned (.int .i64 (-1)) ∧ w' = w := by
  unfold maxLen at hm
  have h2 : (len : Int) ≤ 9223372036854775807 := by omega
  go_enter Try.func47, Try.ntmps47
  go_wp2
  go_ret
  exact ⟨rfl, rfl⟩

abbrev stV (p : Int) (ra : Option Addr) (rn rc : Nat) (oa : Option Addr) (on oc : Nat) (code : Int) : Value := .agg #[.int .i64 p, .slice ra rn rc, .slice oa on oc, .int .i64 code]

set_option maxRecDepth 100000 in
set_option maxHeartbeats 1000000 in
theorem toIntS_any (a0 : Option Addr) (cap : Nat) (xs : List Int) (w : World) (hlen : xs.length ≤ 1048576) (hc : Sl w a0 xs) :
    Calls Try.prog 49 #[.slice a0 xs.length cap] w fun e w' => e = .returned (.slice (some ⟨w.heap.size, 0, none⟩) xs.length xs.length) ∧ OwnI w' w.heap.size (.slice (some ⟨w.heap.size, 0, none⟩) xs.length xs.length) xs ∧ w.heap.size < w'.heap.size ∧ Below w.heap.size w w' := by
  have hl' : (xs.length : Int) ≤ 1048576 := by omega
  have hmk := run_make_int xs.length hlen
  have HM := made_own w xs.length hlen
  have HC : Hid (Sl w a0 xs) := hc
  clear hc
  go_enter Try.func49, Try.ntmps49
  go_wp2_with fail
  clear hmk
  go_loopw [4] (fun i wr => ∃ k : Nat, k ≤ xs.length ∧ i = .int .i64 k ∧ Hid (∃ ys, ys.length = xs.length ∧ OwnI wr w.heap.size (.slice (some ⟨w.heap.size, 0, none⟩) xs.length xs.length) ys ∧ ∀ j, j < k → zi ys j = zi xs j) ∧ Below w.heap.size w wr) (fun i _ => xs.length - (intOf i).toNat)
  case atStart => exact ⟨0, Nat.zero_le _, rfl, ⟨_, by simp, HM, fun j hj => by omega⟩, (Below.refl _ _).alloc (Nat.le_refl _) _⟩
  case round =>
    clear HM
    obtain ⟨k, hk, rfl, HR, hbw⟩ := hrel
    have hs : w.heap.size < wr.heap.size := by obtain ⟨ys, _, ho, _⟩ := HR.out; exact (ho.lt _ rfl).2
    by_cases hlt : k < xs.length
    · obtain ⟨b, off, rfl, hbl, ck⟩ := (HC.out.below hbw).at hlt
      have fz : wr.frozen? ⟨w.heap.size, k, none⟩ = false := by obtain ⟨ys, he, ho, _⟩ := HR.out; rw [← he] at ho; exact ho.frozen k
      have cz : ∃ z : Int, wr.cell? ⟨w.heap.size, k, none⟩ = some (.int .i64 z) := by obtain ⟨ys, he, ho, _⟩ := HR.out; rw [← he] at ho hlt; exact ⟨_, ho.cell hlt⟩
      obtain ⟨z, cz⟩ := cz
      go_wp2
      go_roundw
      case rel =>
        refine ⟨k + 1, by omega, by go_num, ?_, hbw.setCell (Nat.le_refl _) _⟩
        obtain ⟨ys, he, ho, hy⟩ := HR.out
        refine ⟨ys.set k (zi xs k), by simpa using he, (ho.set he.symm k _).1, fun j hj => ?_⟩
        by_cases hjk : j = k
        · subst hjk; exact getD_set_self ys j _ (by omega)
        · rw [getD_set_ne ys j k _ hjk]; exact hy j (by omega)
      case measure => simp [intOf]; omega
    · have HF : Hid (OwnI wr w.heap.size (.slice (some ⟨w.heap.size, 0, none⟩) xs.length xs.length) xs) := by
        obtain ⟨ys, he, ho, hy⟩ := HR.out
        have : ys = xs := ext_getD he fun i hi => hy i (by omega)
        rw [this] at ho
        exact ho
      clear HR
      go_wp2
      go_ret
      exact ⟨rfl, HF.out, hs, hbw⟩

theorem OwnI.setBelow {w : World} {B : Nat} {v : Value} {xs : List Int} (h : OwnI w B v xs) {a : Addr} (ha : a.block < B) (u : Value) : OwnI (w.setCell a u) B v xs := ownsRow_setCell_below h ha u

/-- The value v is a state of its own, its two lists apart. -/
def StOwn (w : World) (B : Nat) (v : Value) (p : Int) (rs os : List Int) (code : Int) : Prop :=
  ∃ vr vo, v = .agg #[.int .i64 p, vr, vo, .int .i64 code] ∧ OwnI w B vr rs ∧ OwnI w B vo os ∧ ∀ k, vr.ownBlock = some k → vo.ownBlock ≠ some k

theorem StOwn.below {w w' : World} {B : Nat} {v : Value} {p code : Int} {rs os : List Int} (h : StOwn w B v p rs os code) (hb : Below w.heap.size w w') : StOwn w' B v p rs os code := by
  obtain ⟨vr, vo, e, h1, h2, h3⟩ := h
  exact ⟨vr, vo, e, h1.below hb, h2.below hb, h3⟩

theorem StOwn.mono {w : World} {B B' : Nat} {v : Value} {p code : Int} {rs os : List Int} (h : StOwn w B v p rs os code) (hb : B' ≤ B) : StOwn w B' v p rs os code := by
  obtain ⟨vr, vo, e, h1, h2, h3⟩ := h
  exact ⟨vr, vo, e, h1.mono hb, h2.mono hb, h3⟩

theorem StOwn.read {w : World} {B : Nat} {v : Value} {p code : Int} {rs os : List Int} (h : StOwn w B v p rs os code) : ∃ ra rc oa oc, v = stV p ra rs.length rc oa os.length oc code ∧ Sl w ra rs ∧ Sl w oa os := by
  obtain ⟨vr, vo, rfl, h1, h2, _⟩ := h
  obtain ⟨ra, rc, rfl, s1⟩ := h1.form
  obtain ⟨oa, oc, rfl, s2⟩ := h2.form
  exact ⟨ra, rc, oa, oc, rfl, s1, s2⟩

set_option maxRecDepth 100000 in
set_option maxHeartbeats 1000000 in
theorem toState_any (p code : Int) (ra oa : Option Addr) (rc oc : Nat) (rs os : List Int) (w : World) (hr : rs.length ≤ 1048576) (ho : os.length ≤ 1048576) (h1 : Sl w ra rs) (h2 : Sl w oa os) :
    Calls Try.prog 37 #[stV p ra rs.length rc oa os.length oc code] w fun e w' => ∃ v, e = .returned v ∧ StOwn w' w.heap.size v p rs os code ∧ Below w.heap.size w w' := by
  have H1 : Hid (Sl w ra rs) := h1
  have H2 : Hid (Sl w oa os) := h2
  clear h1 h2
  go_enter Try.func37, Try.ntmps37
  go_wp2_with fail
  refine (toIntS_any ra rc rs _ hr (H1.out.below (by go_grown))).mono ?_
  rintro e w1 ⟨rfl, o1, z1, b1⟩
  have B1 : Hid (Below w.heap.size w w1) := below_up (by go_grown) b1 (by simp; omega)
  obtain ⟨hc1, hf1⟩ := bcell b1
  simp only [World.size_alloc] at o1 z1
  have O1 : Hid (OwnI w1 (w.heap.size + 1 + 1 + 1) (.slice (some ⟨w.heap.size + 1 + 1 + 1, 0, none⟩) rs.length rs.length) rs) := o1
  clear o1 b1
  have BS : Below w.heap.size w (w1.setCell ⟨w.heap.size + 1 + 1, 1, none⟩ (.slice (some ⟨w.heap.size + 1 + 1 + 1, 0, none⟩) rs.length rs.length)) := B1.out.setCell (by simp; omega) _
  have HBS : Hid (Below w.heap.size w (w1.setCell ⟨w.heap.size + 1 + 1, 1, none⟩ (.slice (some ⟨w.heap.size + 1 + 1 + 1, 0, none⟩) rs.length rs.length))) := BS
  have O1' : Hid (OwnI (w1.setCell ⟨w.heap.size + 1 + 1, 1, none⟩ (.slice (some ⟨w.heap.size + 1 + 1 + 1, 0, none⟩) rs.length rs.length)) (w.heap.size + 1 + 1 + 1) (.slice (some ⟨w.heap.size + 1 + 1 + 1, 0, none⟩) rs.length rs.length) rs) := ownsRow_setCell_below O1.out (by simp) _
  clear BS O1 B1
  have y0 : w.heap.size < w1.heap.size := by omega
  have y1 : w.heap.size + 1 < w1.heap.size := by omega
  have y2 : w.heap.size + 1 + 1 < w1.heap.size := by omega
  go_wp2_with fail
  refine (toIntS_any oa oc os _ ho (H2.out.below HBS.out)).mono ?_
  rintro e w2 ⟨rfl, o2, z2, b2⟩
  have B2 : Hid (Below w.heap.size w w2) := below_up HBS.out b2 (by simp; omega)
  obtain ⟨hc2, hf2⟩ := bcell b2
  have O1'' : Hid (OwnI w2 (w.heap.size + 1 + 1 + 1) (.slice (some ⟨w.heap.size + 1 + 1 + 1, 0, none⟩) rs.length rs.length) rs) := O1'.out.below b2
  simp only [World.size_setCell] at o2 z2
  have O2 : Hid (OwnI w2 w1.heap.size (.slice (some ⟨w1.heap.size, 0, none⟩) os.length os.length) os) := o2
  clear o2 b2 O1' HBS
  go_wp2
  refine bodyPost_ret (v := stV p (some ⟨w.heap.size + 1 + 1 + 1, 0, none⟩) rs.length rs.length (some ⟨w1.heap.size, 0, none⟩) os.length os.length code) (by simp [results, Try.results37, go_sem, hc2, hc1, y1]) rfl ⟨_, rfl, ⟨_, _, rfl, ?_, ?_, ?_⟩, ?_⟩
  · refine OwnI.mono (B := w.heap.size + 1 + 1 + 1) ?_ (by omega)
    repeat (refine OwnI.setBelow ?_ (by simp) _)
    exact O1''.out
  · refine OwnI.mono (B := w1.heap.size) ?_ (by omega)
    repeat (refine OwnI.setBelow ?_ (by simpa using by omega) _)
    exact O2.out
  · intro k hk hk'
    simp [Value.ownBlock] at hk hk'
    omega
  · have := B2.out
    go_grown

set_option maxHeartbeats 400000 in
theorem szState_small (p code : Int) (ra oa : Option Addr) (rn rc on oc : Nat) (x : Int) (w : World) (h : (rn : Int) + on ≤ x) (hx : x ≤ 1048576) :
    Calls Try.prog 33 #[stV p ra rn rc oa on oc code, .int .i64 x] w fun e w' => e = .returned (.int .i64 (x - rn - on)) ∧ Below w.heap.size w w' := by
  have h1 : (rn : Int) ≤ x := by omega
  have h2 : (on : Int) ≤ x - rn := by omega
  have h3 : ¬ x - (rn : Int) < 0 := by omega
  have h4 : ¬ x - (rn : Int) - on < 0 := by omega
  go_enter Try.func33, Try.ntmps33
  go_wp2_with fail
  refine (szIntS_small _ _ _ _ _ h1 hx).mono ?_
  rintro e w1 ⟨rfl, rfl⟩
  go_wp2_with fail
  refine (szIntS_small _ _ _ _ _ h2 (by omega)).mono ?_
  rintro e w1 ⟨rfl, rfl⟩
  go_wp2
  go_ret
  exact ⟨rfl, by go_grown⟩

set_option maxHeartbeats 400000 in
theorem szState_great (p code : Int) (ra oa : Option Addr) (rn rc on oc : Nat) (x : Int) (w : World) (h : x < (rn : Int) + on) (hx : x ≤ 1048576) (hx0 : 0 ≤ x) (hr : rn ≤ maxLen) (ho : on ≤ maxLen) :
    Calls Try.prog 33 #[stV p ra rn rc oa on oc code, .int .i64 x] w fun e w' => e = .returned (.int .i64 (-1)) ∧ Below w.heap.size w w' := by
  by_cases h1 : (rn : Int) ≤ x
  · have h2 : x - (rn : Int) < on := by omega
    have h3 : ¬ x - (rn : Int) < 0 := by omega
    go_enter Try.func33, Try.ntmps33
    go_wp2_with fail
    refine (szIntS_small _ _ _ _ _ h1 hx).mono ?_
    rintro e w1 ⟨rfl, rfl⟩
    go_wp2_with fail
    refine (szIntS_great _ _ _ _ _ h2 (by omega) ho).mono ?_
    rintro e w1 ⟨rfl, rfl⟩
    go_wp2
    go_ret
    exact ⟨rfl, by go_grown⟩
  · have h1' : x < (rn : Int) := by omega
    go_enter Try.func33, Try.ntmps33
    go_wp2_with fail
    refine (szIntS_great _ _ _ _ _ h1' hx0 hr).mono ?_
    rintro e w1 ⟨rfl, rfl⟩
    go_wp2
    go_ret
    exact ⟨rfl, by go_grown⟩

set_option maxRecDepth 100000 in
set_option maxHeartbeats 1000000 in
theorem eqState_same (p code : Int) (ra oa ra' oa' : Option Addr) (rc oc rc' oc' : Nat) (rs os : List Int) (w : World) (hr : rs.length ≤ 1048576) (ho : os.length ≤ 1048576) (h1 : Sl w ra rs) (h2 : Sl w oa os) (h1' : Sl w ra' rs) (h2' : Sl w oa' os) :
    Calls Try.prog 41 #[stV p ra rs.length rc oa os.length oc code, stV p ra' rs.length rc' oa' os.length oc' code] w fun e w' => e = .returned (.bool true) ∧ Below w.heap.size w w' := by
  have H1 : Hid (Sl w ra rs) := h1
  have H2 : Hid (Sl w oa os) := h2
  have H1' : Hid (Sl w ra' rs) := h1'
  have H2' : Hid (Sl w oa' os) := h2'
  clear h1 h2 h1' h2'
  go_enter Try.func41, Try.ntmps41
  go_wp2_with fail
  refine (eqIntS_same ra ra' rc rc' rs _ hr (H1.out.below (by go_grown)) (H1'.out.below (by go_grown))).mono ?_
  rintro e w1 ⟨rfl, b1⟩
  have B1 : Hid (Below w.heap.size w w1) := below_up (by go_grown) b1 (by simp; omega)
  obtain ⟨hc1, hf1⟩ := bcell b1
  have y1 : w.heap.size + 1 < w1.heap.size := by have := b1.size; simp at this; omega
  have y0 : w.heap.size < w1.heap.size := by omega
  clear b1
  go_wp2_with fail
  refine (eqIntS_same oa oa' oc oc' os _ ho (H2.out.below B1.out) (H2'.out.below B1.out)).mono ?_
  rintro e w2 ⟨rfl, b2⟩
  have B2 : Hid (Below w.heap.size w w2) := below_up B1.out b2 B1.out.size
  obtain ⟨hc2, hf2⟩ := bcell b2
  clear b2 B1
  go_wp2
  go_ret
  exact ⟨rfl, B2.out⟩

/-- Block k is that of one of the lists of the state v. -/
def hasBlock (v : Value) (k : Nat) : Prop := ∃ p vr vo code, v = .agg #[p, vr, vo, code] ∧ (vr.ownBlock = some k ∨ vo.ownBlock = some k)

theorem hasBlock_iff (p vr vo code : Value) (k : Nat) : hasBlock (.agg #[p, vr, vo, code]) k ↔ vr.ownBlock = some k ∨ vo.ownBlock = some k := by
  constructor
  · rintro ⟨p', vr', vo', code', e, h⟩
    simp only [Value.agg.injEq, Array.mk.injEq, List.cons.injEq, and_true] at e
    obtain ⟨_, rfl, rfl, _⟩ := e
    exact h
  · exact fun h => ⟨p, vr, vo, code, rfl, h⟩

theorem StOwn.lt {w : World} {B : Nat} {v : Value} {p code : Int} {rs os : List Int} (h : StOwn w B v p rs os code) {k : Nat} (hk : hasBlock v k) : B ≤ k ∧ k < w.heap.size := by
  obtain ⟨vr, vo, rfl, h1, h2, _⟩ := h
  rcases (hasBlock_iff _ _ _ _ _).1 hk with h | h
  · exact h1.lt k h
  · exact h2.lt k h

/-- The four cells of a state in a block. -/
def BoxC (w : World) (N : Nat) (p vr vo code : Value) : Prop := w.cell? ⟨N, 0, none⟩ = some p ∧ w.cell? ⟨N, 1, none⟩ = some vr ∧ w.cell? ⟨N, 2, none⟩ = some vo ∧ w.cell? ⟨N, 3, none⟩ = some code

theorem BoxC.below {w w' : World} {N : Nat} {p vr vo code : Value} (h : BoxC w N p vr vo code) (hb : Below w.heap.size w w') : BoxC w' N p vr vo code := by
  obtain ⟨h0, h1, h2, h3⟩ := h
  have hN : N < w.heap.size := World.block_lt_of_cell? w _ h0
  exact ⟨(hb.cell (p := ⟨N, 0, none⟩) hN).trans h0, (hb.cell (p := ⟨N, 1, none⟩) hN).trans h1, (hb.cell (p := ⟨N, 2, none⟩) hN).trans h2, (hb.cell (p := ⟨N, 3, none⟩) hN).trans h3⟩

theorem BoxC.new (w : World) (p vr vo code : Value) (t : TypeId) : BoxC (w.alloc (.cells #[p, vr, vo, code] t)) w.heap.size p vr vo code := by
  unfold BoxC
  simp

structure S4 where
  p : Int
  rs : List Int
  os : List Int
  c : Int

set_option maxRecDepth 100000 in
set_option maxHeartbeats 1000000 in
theorem toInsS_free (b off len cap : Nat) (g : Nat → I5) (w : World) (hlen : len ≤ 1048576) (hb : b < w.heap.size) (hc : InsAt w b off len g) :
    Calls Try.prog 36 #[.slice (some ⟨b, off, none⟩) len cap] w fun e w' => e = .returned (.slice (some ⟨w.heap.size, 0, none⟩) len len) ∧ InsAt w' w.heap.size 0 len g ∧ w.heap.size < w'.heap.size ∧ Below w.heap.size w w' ∧ ∀ j, w'.frozen? ⟨w.heap.size, j, none⟩ = false := by
  have hl' : (len : Int) ≤ 1048576 := by omega
  have hmk := run_make_ins len hlen
  have HC : Hid (InsAt w b off len g) := hc
  clear hc
  go_enter Try.func36, Try.ntmps36
  go_wp2_with fail
  clear hmk
  go_loopw [4] (fun i wr => ∃ k : Nat, k ≤ len ∧ i = .int .i64 k ∧ (∃ f, wr.rowIs w.heap.size 87 (len * 5) f ∧ Hid (Filled f g k)) ∧ Below w.heap.size w wr) (fun i _ => len - (intOf i).toNat)
  case atStart => exact ⟨0, Nat.zero_le _, rfl, ⟨_, madeIns_row w len, fun i hi => by omega⟩, (Below.refl _ _).alloc (Nat.le_refl _) _⟩
  case round =>
    obtain ⟨k, hk, rfl, ⟨f, hrow, HF⟩, hbw⟩ := hrel
    have hs := hrow.lt
    by_cases hlt : k < len
    · obtain ⟨c0, c1, c2, c3, c4⟩ := HC.out.below hbw hb k hlt
      have HR : Hid (wr.rowIs w.heap.size 87 (len * 5) f) := hrow
      clear hrow
      go_wp2_with fail
      refine (toIns_any _ _ _ _ _ _).mono ?_
      rintro e w1 ⟨rfl, hb1⟩
      have hr1 : w1.rowIs w.heap.size 87 (len * 5) f := HR.out.of_block (hb1.block _ hs)
      have f0 := hr1.frozen (k * 5)
      have f1 := hr1.frozen (k * 5 + 1)
      have f2 := hr1.frozen (k * 5 + 2)
      have f3 := hr1.frozen (k * 5 + 3)
      have f4 := hr1.frozen (k * 5 + 4)
      have g0 := hr1.cell (i := k * 5) (by omega)
      have g1 := hr1.cell (i := k * 5 + 1) (by omega)
      have g2 := hr1.cell (i := k * 5 + 2) (by omega)
      have g3 := hr1.cell (i := k * 5 + 3) (by omega)
      have g4 := hr1.cell (i := k * 5 + 4) (by omega)
      have HR1 : Hid (w1.rowIs w.heap.size 87 (len * 5) f) := hr1
      clear hr1
      go_wp2_with fail
      exact ⟨⟨k + 1, by omega, by go_num, Filled.step HR1.out HF.out, (((((hbw.trans (hb1.mono (Nat.le_of_lt hs))).setCell (Nat.le_refl _) _).setCell (Nat.le_refl _) _).setCell (Nat.le_refl _) _).setCell (Nat.le_refl _) _).setCell (Nat.le_refl _) _⟩, by simp [intOf]; omega⟩
    · have hkl : k = len := by omega
      have HI : Hid (InsAt wr w.heap.size 0 len g) := by
        have := HF.out.at hrow hk
        rw [hkl] at this
        exact this
      have HZ : Hid (∀ j, wr.frozen? ⟨w.heap.size, j, none⟩ = false) := fun j => hrow.frozen j
      clear hkl HF hrow
      go_wp2
      go_ret
      exact ⟨rfl, HI.out, hs, hbw, HZ.out⟩

set_option maxRecDepth 100000 in

set_option maxRecDepth 100000 in
set_option maxHeartbeats 1000000 in
theorem toInsS_freeEmpty (a0 : Option Addr) (cap : Nat) (g : Nat → I5) (w : World) :
    Calls Try.prog 36 #[.slice a0 0 cap] w fun e w' => e = .returned (.slice (some ⟨w.heap.size, 0, none⟩) 0 0) ∧ InsAt w' w.heap.size 0 0 g ∧ w.heap.size < w'.heap.size ∧ Below w.heap.size w w' ∧ ∀ j, w'.frozen? ⟨w.heap.size, j, none⟩ = false := by
  have hmk : ∀ w : World, (Instr.makeSlice 72 (.int .i64 0) (.int .i64 0)).run Try.prog w = .ok (.slice (some ⟨w.heap.size, 0, none⟩) 0 0) (w.alloc (.cells (madeCells (insV 0 0 0 0 0).cells (0 * 5)) 87)) := fun w => run_make_ins 0 (by omega) w
  go_enter Try.func36, Try.ntmps36
  go_wp2_with fail
  clear hmk
  go_rounds 1
  go_ret
  exact ⟨rfl, fun i hi => by omega, by simp, (Below.refl _ _).alloc (Nat.le_refl _) _, fun j => new_frozen _ _ _ j rfl⟩

/-- Wherever nothing old has turned, a copy of the program can be made, and written into. -/
def CopiesF (w : World) (a0 : Option Addr) (len cap : Nat) (g : Nat → I5) : Prop := ∀ wx, Below w.heap.size w wx →
  Calls Try.prog 36 #[.slice a0 len cap] wx fun e w' => e = .returned (.slice (some ⟨wx.heap.size, 0, none⟩) len len) ∧ InsAt w' wx.heap.size 0 len g ∧ wx.heap.size < w'.heap.size ∧ Below wx.heap.size wx w' ∧ ∀ j, w'.frozen? ⟨wx.heap.size, j, none⟩ = false

theorem copiesF_of {W : World} {a0 : Option Addr} {len cap : Nat} (hl : len ≤ 1048576) (hr : len = 0 ∨ ∃ b off g, a0 = some ⟨b, off, none⟩ ∧ b < W.heap.size ∧ InsAt W b off len g) : ∃ g, CopiesF W a0 len cap g := by
  rcases hr with rfl | ⟨b, off, g, rfl, hb, hI⟩
  · exact ⟨fun _ => ⟨0, 0, 0, 0, 0⟩, fun wx _ => toInsS_freeEmpty a0 cap _ wx⟩
  · exact ⟨g, fun wx hB => toInsS_free b off len cap g wx hl (Nat.lt_of_lt_of_le hb hB.size) (hI.below hB hb)⟩

/-- The cells of len places stand in a block, and may be written. -/
def Room (w : World) (b len : Nat) : Prop := (∀ i, i < len * 5 → ∃ u, w.cell? ⟨b, i, none⟩ = some u) ∧ ∀ j, w.frozen? ⟨b, j, none⟩ = false

theorem Room.set {w : World} {b len : Nat} (h : Room w b len) (p : Addr) (v : Value) : Room (w.setCell p v) b len :=
  ⟨fun i hi => (h.1 i hi).elim fun _ e => cell?_setCell_some e, fun j => by rw [World.frozen?_setCell]; exact h.2 j⟩

theorem Room.of_ins {w : World} {b len : Nat} {g : Nat → I5} (h : InsAt w b 0 len g) (hf : ∀ j, w.frozen? ⟨b, j, none⟩ = false) : Room w b len := by
  refine ⟨fun i hi => ?_, hf⟩
  obtain ⟨c0, c1, c2, c3, c4⟩ := h (i / 5) (by omega)
  simp only [Nat.zero_add] at c0 c1 c2 c3 c4
  have hh : i = i / 5 * 5 ∨ i = i / 5 * 5 + 1 ∨ i = i / 5 * 5 + 2 ∨ i = i / 5 * 5 + 3 ∨ i = i / 5 * 5 + 4 := by omega
  rcases hh with e | e | e | e | e
  · rw [e]; exact ⟨_, c0⟩
  · rw [e]; exact ⟨_, c1⟩
  · rw [e]; exact ⟨_, c2⟩
  · rw [e]; exact ⟨_, c3⟩
  · rw [e]; exact ⟨_, c4⟩

set_option maxRecDepth 100000 in
set_option maxHeartbeats 1000000 in
theorem markInsS_any (b len cap : Nat) (k : Int) (w : World) (hlen : len ≤ 1048576) (k0 : 0 ≤ k) (k1 : k ≤ 100000000) (h : Room w b len) :
    Calls Try.prog 44 #[.slice (some ⟨b, 0, none⟩) len cap, .int .i64 k] w fun e w' => e = .returned (.int .i64 (k + 5 * len)) ∧ w.grownBy w' (some b) := by
  have hl' : (len : Int) ≤ 1048576 := by omega
  have HO : Hid (Room w b len) := h
  clear h
  go_enter Try.func44, Try.ntmps44
  go_wp2_with fail
  go_loopw [1, 5] (fun q i wr => ∃ j : Nat, j ≤ len ∧ i = .int .i64 j ∧ q = .int .i64 (k + 5 * j) ∧ Hid (Room wr b len ∧ w.grownBy wr (some b))) (fun _ i _ => len - (intOf i).toNat)
  case atStart => exact ⟨0, Nat.zero_le _, rfl, by simp, HO.out, World.grownBy.refl _ _⟩
  case round =>
    clear HO
    obtain ⟨j, hj, rfl, rfl, HR⟩ := hrel
    by_cases hlt : j < len
    · have hlt' : (j : Int) < (len : Int) := by omega
      obtain ⟨u0, c0⟩ := HR.out.1.1 (j * 5) (by omega)
      obtain ⟨u1, c1⟩ := HR.out.1.1 (j * 5 + 1) (by omega)
      obtain ⟨u2, c2⟩ := HR.out.1.1 (j * 5 + 2) (by omega)
      obtain ⟨u3, c3⟩ := HR.out.1.1 (j * 5 + 3) (by omega)
      obtain ⟨u4, c4⟩ := HR.out.1.1 (j * 5 + 4) (by omega)
      have fz := HR.out.1.2
      go_wp2
      go_roundw
      case rel =>
        refine ⟨j + 1, by omega, by go_num, by go_num, ?_⟩
        refine ⟨?_, ?_⟩
        · repeat (refine Room.set ?_ _ _)
          exact HR.out.1
        · repeat (refine grown_setCell ?_ (.inl rfl) _)
          exact HR.out.2
      case measure => simp [intOf]; omega
    · have hlt' : ¬ (j : Int) < (len : Int) := by omega
      have HF : Hid (w.grownBy wr (some b)) := HR.out.2
      have hjl : (j : Int) = len := by omega
      have HJ : Hid ((j : Int) = len) := hjl
      clear HR hjl
      go_wp2
      go_ret
      exact ⟨ret_int (by rw [HJ.out]), HF.out⟩

theorem cellsLawIns : Try.prog.cellsOf 89 = 5 := by kernel_rfl

theorem cellsLawState : Try.prog.cellsOf 67 = 4 := by kernel_rfl

theorem cellsInts : Try.prog.cellsOf 29 = 1 := by kernel_rfl

theorem array4 {cs : Array Value} (h : cs.size = 4) : ∃ c0 c1 c2 c3, cs = #[c0, c1, c2, c3] := by
  obtain ⟨l⟩ := cs
  match l, h with
  | [c0, c1, c2, c3], _ => exact ⟨c0, c1, c2, c3, rfl⟩

/-- Five cells that read as a struct of five ints are five numbers. -/
theorem open_insCells {H : Type} {enc : TypeId × Value → H} {w : World} {base fuel : Nat} {spare : Nat → Bool} {held : Bool} {c0 c1 c2 c3 c4 : Value} {x : DataW H × List MemPlace}
    (hf : DataW.trod enc Try.prog w base spare held fuel 89 [c0, c1, c2, c3, c4] = some x) :
    ∃ op r a b n : Int, c0 = .int .i64 op ∧ c1 = .int .i64 r ∧ c2 = .int .i64 a ∧ c3 = .int .i64 b ∧ c4 = .int .i64 n := by
  obtain ⟨xs, m, -, -, -, hl, hx⟩ := DataW.trod_struct Try.underlying89 hf
  have hl : xs.length = 5 := hl
  have q0 : DataW.trod enc Try.prog w base spare held m 3 [c0] = xs[0]? := by simpa [cellsInt] using hx 0 _ rfl
  have q1 : DataW.trod enc Try.prog w base spare held m 3 [c1] = xs[1]? := by simpa [cellsInt] using hx 1 _ rfl
  have q2 : DataW.trod enc Try.prog w base spare held m 3 [c2] = xs[2]? := by simpa [cellsInt] using hx 2 _ rfl
  have q3 : DataW.trod enc Try.prog w base spare held m 3 [c3] = xs[3]? := by simpa [cellsInt] using hx 3 _ rfl
  have q4 : DataW.trod enc Try.prog w base spare held m 3 [c4] = xs[4]? := by simpa [cellsInt] using hx 4 _ rfl
  rw [List.getElem?_eq_getElem (by omega)] at q0 q1 q2 q3 q4
  obtain ⟨z0, e0, -, -⟩ := DataW.trod_int Try.underlying3 q0
  obtain ⟨z1, e1, -, -⟩ := DataW.trod_int Try.underlying3 q1
  obtain ⟨z2, e2, -, -⟩ := DataW.trod_int Try.underlying3 q2
  obtain ⟨z3, e3, -, -⟩ := DataW.trod_int Try.underlying3 q3
  obtain ⟨z4, e4, -, -⟩ := DataW.trod_int Try.underlying3 q4
  simp only [List.cons.injEq, and_true] at e0 e1 e2 e3 e4
  exact ⟨z0, z1, z2, z3, z4, e0, e1, e2, e3, e4⟩

/-- A list of places that came in: empty, or a row in memory. -/
theorem open_insRow {H : Type} {enc : TypeId × Value → H} {w : World} {spare : Nat → Bool} {held : Bool} {base : Nat} {a0 : Option Addr} {len cap : Nat} {d : DataW H} {p : List MemPlace}
    (h : DataW.Trod enc Try.prog w base spare held 65 (.slice a0 len cap) d p) :
    len ≤ maxLen ∧ (len = 0 ∨ ∃ b off g, a0 = some ⟨b, off, none⟩ ∧ b < w.heap.size ∧ InsAt w b off len g) := by
  obtain ⟨fuel, hf⟩ := h
  rcases Go.Deep.open_slice Try.underlying65 hf with ⟨hcs, _⟩ | ⟨a, len', cap', m, n, D, Pl, hcs, _, hl, hm, hmm, _, hx⟩
  · simp [Value.cells] at hcs
    obtain ⟨_, rfl, _⟩ := hcs
    exact ⟨Nat.zero_le _, .inl rfl⟩
  · simp [Value.cells] at hcs
    obtain ⟨rfl, rfl, rfl⟩ := hcs
    refine ⟨Nat.le_trans hl hm, ?_⟩
    by_cases h0 : len = 0
    · exact .inl h0
    right
    have hle : len ≤ m := by rw [hmm]; split <;> omega
    rw [cellsLawIns] at hx
    obtain ⟨b, off, spot⟩ := a
    have hcell : ∀ i, i < len → ∃ x : I5, w.cell? (Addr.add (Addr.add ⟨b, off, spot⟩ (i * 5)) 0) = some (.int .i64 x.o) ∧ w.cell? (Addr.add (Addr.add ⟨b, off, spot⟩ (i * 5)) 1) = some (.int .i64 x.r) ∧ w.cell? (Addr.add (Addr.add ⟨b, off, spot⟩ (i * 5)) 2) = some (.int .i64 x.a) ∧ w.cell? (Addr.add (Addr.add ⟨b, off, spot⟩ (i * 5)) 3) = some (.int .i64 x.b) ∧ w.cell? (Addr.add (Addr.add ⟨b, off, spot⟩ (i * 5)) 4) = some (.int .i64 x.n) := by
      intro i hi
      obtain ⟨cs', h1, h2⟩ := hx i (by omega)
      obtain ⟨_, hlen, hc⟩ := World.cells?_some h1
      match cs', hlen with
      | [c0, c1, c2, c3, c4], _ =>
        obtain ⟨o, r, a, b, n, rfl, rfl, rfl, rfl, rfl⟩ := open_insCells h2
        exact ⟨⟨o, r, a, b, n⟩, hc 0 (by omega), hc 1 (by omega), hc 2 (by omega), hc 3 (by omega), hc 4 (by omega)⟩
    have hspot : spot = none := by
      obtain ⟨x, hx0, _⟩ := hcell 0 (by omega)
      simpa [Addr.add] using World.cell?_spot hx0
    subst hspot
    have inh : Inhabited I5 := ⟨⟨0, 0, 0, 0, 0⟩⟩
    obtain ⟨g, hg⟩ := Go.Deep.choose_lt (α := I5) hcell
    have hI : InsAt w b off len g := by
      intro i hi
      obtain ⟨q0, q1, q2, q3, q4⟩ := hg i hi
      rw [addr_addO, addr_addO] at q0 q1 q2 q3 q4
      exact ⟨q0, q1, q2, q3, q4⟩
    exact ⟨b, off, g, rfl, cell_lt (hI 0 (by omega)).1, hI⟩

/-- A list of ints that came in. -/
theorem open_intRow {H : Type} {enc : TypeId × Value → H} {w : World} {held : Bool} {base fuel : Nat} {v : Value} {x : DataW H × List MemPlace}
    (hf : DataW.trod enc Try.prog w base (fun _ => true) held fuel 29 [v] = some x) :
    ∃ a0 cap xs, v = .slice a0 xs.length cap ∧ xs.length ≤ maxLen ∧ Sl w a0 xs := by
  rcases open_ints Try.underlying29 Try.underlying3 cellsInt hf with ⟨hcs, _⟩ | ⟨a, l, c, zs, hcs, _, hl, hm, hz, _, hcell, _⟩
  · simp at hcs
    exact ⟨none, 0, [], hcs, Nat.zero_le _, .inl rfl⟩
  · simp at hcs
    have hz' : zs.length = c := by simpa using hz
    have hlen : (zs.take l).length = l := by simp; omega
    refine ⟨some a, c, zs.take l, by rw [hlen]; exact hcs, by rw [hlen]; exact Nat.le_trans hl hm, ?_⟩
    by_cases h0 : l = 0
    · exact .inl (by simp [h0])
    obtain ⟨b, off, rfl, hc⟩ := ints_at hcell (by omega)
    refine .inr ⟨b, off, rfl, cell_lt (hc 0 (by omega)), fun i hi => ?_⟩
    rw [hlen] at hi
    rw [hc i (by omega)]
    unfold zi
    rw [List.getD_eq_getElem?_getD, List.getD_eq_getElem?_getD, List.getElem?_take, if_pos hi]

set_option maxRecDepth 100000 in
/-- A state that came in. -/
theorem open_state {H : Type} {enc : TypeId × Value → H} {w : World} {base b0 : Nat} {held : Bool} {rc : Reach} {v : Value} {d : DataW H} {p : List MemPlace}
    (hv : Value.okWide Try.prog w rc b0 67 v) (h : DataW.Trod enc Try.prog w base (fun _ => true) held 67 v d p) :
    ∃ (q code : Int) (ra oa : Option Addr) (rc oc : Nat) (rs os : List Int), v = stV q ra rs.length rc oa os.length oc code ∧ rs.length ≤ maxLen ∧ os.length ≤ maxLen ∧ Sl w ra rs ∧ Sl w oa os := by
  obtain ⟨cs, rfl, hsz⟩ := okWide_struct Try.underlying67 hv
  obtain ⟨c0, c1, c2, c3, rfl⟩ := array4 (hsz.trans cellsLawState)
  obtain ⟨fuel, hf⟩ := h
  have hf' : DataW.trod enc Try.prog w base (fun _ => true) held fuel 67 [c0, c1, c2, c3] = some (d, p) := by simpa [Value.cells] using hf
  obtain ⟨xs, m, -, -, -, hl, hx⟩ := DataW.trod_struct Try.underlying67 hf'
  have hl : xs.length = 4 := hl
  have q0 : DataW.trod enc Try.prog w base (fun _ => true) held m 3 [c0] = xs[0]? := by simpa [cellsInt] using hx 0 _ rfl
  have q1 : DataW.trod enc Try.prog w base (fun _ => true) held m 29 [c1] = xs[1]? := by simpa [cellsInts] using hx 1 _ rfl
  have q2 : DataW.trod enc Try.prog w base (fun _ => true) held m 29 [c2] = xs[2]? := by simpa [cellsInts] using hx 2 _ rfl
  have q3 : DataW.trod enc Try.prog w base (fun _ => true) held m 3 [c3] = xs[3]? := by simpa [cellsInt] using hx 3 _ rfl
  rw [List.getElem?_eq_getElem (by omega)] at q0 q1 q2 q3
  obtain ⟨z0, e0, -, -⟩ := DataW.trod_int Try.underlying3 q0
  obtain ⟨z3, e3, -, -⟩ := DataW.trod_int Try.underlying3 q3
  obtain ⟨ra, rc, rs, rfl, hr, h1⟩ := open_intRow q1
  obtain ⟨oa, oc, os, rfl, ho, h2⟩ := open_intRow q2
  simp only [List.cons.injEq, and_true] at e0 e3
  subst e0 e3
  exact ⟨z0, z3, ra, oa, rc, oc, rs, os, rfl, hr, ho, h1, h2⟩

end Go.Proofs.Ytfbjeabpibnacaa
