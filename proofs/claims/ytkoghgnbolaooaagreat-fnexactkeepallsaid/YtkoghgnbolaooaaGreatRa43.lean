/- Kept states of one's own; the walk of the model's KeepAll. -/
import Derived.Test.YtkoghgnbolaooaaGreatRa38
import Derived.Test.YtkoghgnbolaooaaGreatRa41
namespace Go.Proofs.YtkoghgnbolaooaaGreat
open Go.ChangeShapes Go.WideShapes Go.ChangeAt Go.RowKit Go.Deep

/-- Kept states of one's own: the row, and each state's lists, all apart. -/
structure LK (w : World) (P : Nat → Prop) (v : Value) (n : Nat) (N : Nat → Int) (vs : Nat → Value) (S : Nat → S4) : Prop where
  row : w.ownsRow 0 53 5 v n (flat (fun i => .int .i64 (N i) :: cellsL (vs i)) n)
  own : ∀ i, i < n → StOwn w 0 (vs i) (S i).p (S i).rs (S i).os (S i).c
  rb : ∀ k, v.ownBlock = some k → P k
  ob : ∀ i, i < n → ∀ k, hasBlock (vs i) k → P k
  ra : ∀ i, i < n → ∀ k, hasBlock (vs i) k → v.ownBlock ≠ some k
  oa : ∀ i j, i < n → j < n → i ≠ j → ∀ k, hasBlock (vs i) k → ¬ hasBlock (vs j) k

section
variable {w : World} {P : Nat → Prop} {v : Value} {n : Nat} {N : Nat → Int} {vs : Nat → Value} {S : Nat → S4}
theorem LK.keep (o : LK w P v n N vs S) {w' : World} (hb : ∀ k, P k → k < w.heap.size → w'.heap[k]? = w.heap[k]?) : LK w' P v n N vs S :=
  ⟨ownsRow_blkL o.row fun k hk => hb k (o.rb k hk) (o.row.lt k hk).2, fun i hi => (o.own i hi).blk fun k hk => hb k (o.ob i hi k hk) ((o.own i hi).lt hk).2, o.rb, o.ob, o.ra, o.oa⟩
theorem LK.below (o : LK w P v n N vs S) {w' : World} (hb : Below w.heap.size w w') : LK w' P v n N vs S := o.keep fun k _ hk => hb.block k hk
theorem LK.mono (o : LK w P v n N vs S) {P' : Nat → Prop} (h : ∀ k, P k → k < w.heap.size → P' k) : LK w P' v n N vs S :=
  ⟨o.row, o.own, fun k hk => h k (o.rb k hk) (o.row.lt k hk).2, fun i hi k hk => h k (o.ob i hi k hk) ((o.own i hi).lt hk).2, o.ra, o.oa⟩
theorem LK.nil (w : World) (P : Nat → Prop) (N : Nat → Int) (vs : Nat → Value) (S : Nat → S4) : LK w P (.slice none 0 0) 0 N vs S :=
  ⟨World.ownsRow_nil _ _ _ _, fun i hi => (by omega), fun k hk => (by cases hk), fun i hi => (by omega), fun i hi => (by omega), fun i j hi => (by omega)⟩

theorem LK.push (o : LK w P v n N vs S) {w1 w2 : World} {u' v' : Value} (b1 : Below w.heap.size w w1) (hu : StOwn w1 w.heap.size u' (S n).p (S n).rs (S n).os (S n).c) (hv : w2.ownsRow 0 53 5 v' (n + 1) (flat (fun i => .int .i64 (N i) :: cellsL (vs i)) n ++ (.int .i64 (N n) :: cellsL u'))) (g : w1.grownBy w2 v.ownBlock)
    (hv' : ∀ j, v'.ownBlock = some j → v.ownBlock = some j ∨ w1.heap.size ≤ j) {P' : Nat → Prop} (hP : ∀ k, P k → k < w.heap.size → P' k) (hP' : ∀ k, w.heap.size ≤ k → k < w2.heap.size → P' k) : LK w2 P' v' (n + 1) N (fun j => if j = n then u' else vs j) S := by
  have hvlt : ∀ k, v.ownBlock = some k → k < w.heap.size := fun k hk => (o.row.lt k hk).2
  have lts : ∀ i, i < n → ∀ k, hasBlock (vs i) k → k < w.heap.size := fun i hi k hk => ((o.own i hi).lt hk).2
  have hu2 : StOwn w2 w.heap.size u' (S n).p (S n).rs (S n).os (S n).c := hu.blk fun k hk => g.block k (hu.lt hk).2 fun e => by
    have q1 := (hu.lt hk).1
    have q2 := hvlt k e.symm
    omega
  have ho2 : ∀ i, i < n → StOwn w2 0 (vs i) (S i).p (S i).rs (S i).os (S i).c := fun i hi => (o.own i hi).blk fun k hk => (g.block k (Nat.lt_of_lt_of_le (lts i hi k hk) b1.size) fun e => o.ra i hi k hk e.symm).trans (b1.block k (lts i hi k hk))
  refine ⟨?_, fun i hi => ?_, fun k hk => ?_, fun i hi k hk => ?_, fun i hi k hk => ?_, fun i j hi hj hij k hk => ?_⟩
  · have e : flat (fun i => .int .i64 (N i) :: cellsL (if i = n then u' else vs i)) (n + 1) = flat (fun i => .int .i64 (N i) :: cellsL (vs i)) n ++ (.int .i64 (N n) :: cellsL u') := by
      rw [flat, if_pos rfl]
      congr 1
      exact flat_congr fun i hi => by rw [if_neg (by omega)]
    rw [e]
    exact hv
  · by_cases ei : i = n
    · subst ei
      simp only [if_true]
      exact hu2.mono (Nat.zero_le _)
    · simp only [if_neg ei]
      exact ho2 i (by omega)
  · rcases hv' k hk with h | h
    · exact hP k (o.rb k h) (hvlt k h)
    · exact hP' k (Nat.le_trans b1.size h) (hv.lt k hk).2
  · by_cases ei : i = n
    · simp only [if_pos ei] at hk
      exact hP' k (hu.lt hk).1 (hu2.lt hk).2
    · simp only [if_neg ei] at hk
      exact hP k (o.ob i (by omega) k hk) (lts i (by omega) k hk)
  · intro hvk
    by_cases ei : i = n
    · simp only [if_pos ei] at hk
      rcases hv' k hvk with h | h
      · have := hvlt k h
        have := (hu.lt hk).1
        omega
      · have := (hu.lt hk).2
        omega
    · simp only [if_neg ei] at hk
      rcases hv' k hvk with h | h
      · exact o.ra i (by omega) k hk h
      · have := lts i (by omega) k hk
        have := b1.size
        omega
  · intro hjk
    by_cases ei : i = n
    · have ej : j ≠ n := fun e => hij (by omega)
      simp only [if_pos ei] at hk
      simp only [if_neg ej] at hjk
      have := lts j (by omega) k hjk
      have := (hu.lt hk).1
      omega
    · simp only [if_neg ei] at hk
      by_cases ej : j = n
      · simp only [if_pos ej] at hjk
        have := lts i (by omega) k hk
        have := (hu.lt hjk).1
        omega
      · simp only [if_neg ej] at hjk
        exact o.oa i j (by omega) (by omega) hij k hk hjk

theorem LK.cell (o : LK w P v n N vs S) {i : Nat} (hi : i < n) : ∃ g cap, v = .slice (some ⟨g, 0, none⟩) n cap ∧ P g ∧ g < w.heap.size ∧ Cel5 w g (i * 5) (N i) (S i) (vs i) ∧ ∀ j, w.frozen? ⟨g, j, none⟩ = false := by
  have hr := o.row
  rcases hr.2 with ⟨_, h0⟩ | ⟨g, cap, cur, rfl, hb, hg, hcap, _⟩
  · omega
  · refine ⟨g, cap, rfl, o.rb g rfl, (o.row.lt g rfl).2, ?_, fun j => o.row.frozenAt j⟩
    have hl : ∀ j, j < n → ((fun i => Value.int .i64 (N i) :: cellsL (vs i)) j).length = 5 := fun j hj => by
      have := (o.own j hj).cellsL.1
      simp [this]
    have hc : ∀ j, j < 5 → w.cell? ⟨g, i * 5 + j, none⟩ = (Value.int .i64 (N i) :: cellsL (vs i))[j]? := fun j hj => by
      rw [o.row.cellAt (i * 5 + j) (by omega)]
      exact flat_at hl hi hj
    obtain ⟨vr, vo, e, h1, h2, -⟩ := o.own i hi
    obtain ⟨a1, c1, rfl, -⟩ := h1.form
    obtain ⟨a2, c2, rfl, -⟩ := h2.form
    rw [e] at hc
    exact ⟨a1, c1, a2, c2, e, hc 0 (by omega), hc 1 (by omega), hc 2 (by omega), hc 3 (by omega), hc 4 (by omega)⟩
end

theorem ownsRow_sliceK {w : World} {B : Nat} {e : TypeId} {sz : Nat} {v : Value} {n : Nat} {xs : List Value} (h : w.ownsRow B e sz v n xs) : ∃ a c, v = .slice a n c := by
  rcases h.2 with ⟨rfl, rfl⟩ | ⟨g, cap, cur, rfl, _⟩
  · exact ⟨none, 0, rfl⟩
  · exact ⟨_, _, rfl⟩
theorem kndK : Kind 26 53 5 72 := by
  have hinfo := infoKpt
  cases hi : Tryz.prog.info? 53 with
  | none => rw [hi] at hinfo; cases hinfo
  | some i =>
    rw [hi] at hinfo
    simp only [Option.map_some, Option.some.injEq, Prod.mk.injEq] at hinfo
    exact ⟨Tryz.underlying26, ⟨i, _, hi, hinfo.1, hinfo.2.1, hinfo.2.2, rfl⟩, by omega, by omega⟩
theorem LK.made (w : World) (P : Nat → Prop) (hP : P w.heap.size) (N : Nat → Int) (vs : Nat → Value) (S : Nat → S4) : LK (w.alloc (.cells #[] 53)) P (.slice (some ⟨w.heap.size, 0, none⟩) 0 0) 0 N vs S :=
  ⟨World.ownsRow_made (base := 0) w #[] 0 (Nat.zero_le _) (by unfold maxLen; omega) (by simp), fun i hi => (by omega), fun k hk => by cases hk; exact hP, fun i hi => (by omega), fun i hi => (by omega), fun i j hi => (by omega)⟩
/-- One kept state more is appended. -/
theorem LK.appended {w w1 w2 : World} {P : Nat → Prop} {v v' : Value} {n : Nat} {N : Nat → Int} {vs : Nat → Value} {S : Nat → S4} (o : LK w P v n N vs S) (b1 : Below w.heap.size w w1) {ra oa : Option Addr} {rc oc : Nat} (hu : StOwn w1 w.heap.size (stV (S n).p ra (S n).rs.length rc oa (S n).os.length oc (S n).c) (S n).p (S n).rs (S n).os (S n).c) (hP' : ∀ k, w.heap.size ≤ k → P k)
    (r2 : w2.ownsRow 0 53 5 v' (n + 1) (flat (fun i => .int .i64 (N i) :: cellsL (vs i)) n ++ [.int .i64 (N n), .int .i64 (S n).p, .slice ra (S n).rs.length rc, .slice oa (S n).os.length oc, .int .i64 (S n).c])) (r3 : w1.grownBy w2 v.ownBlock) (r4 : ∀ j, v'.ownBlock = some j → v.ownBlock = some j ∨ w1.heap.size ≤ j) :
    LK w2 P v' (n + 1) N (fun j => if j = n then stV (S n).p ra (S n).rs.length rc oa (S n).os.length oc (S n).c else vs j) S ∧ Touch P w w2 :=
  ⟨o.push b1 hu r2 r3 r4 (fun _ hk _ => hk) (fun k hk _ => hP' k hk), (Touch.of_below b1).trans (Touch.of_grown r3 fun k hk => o.rb k hk)⟩

/-- Kept states of one's own, seen as ones that came in. -/
theorem LK.all {w : World} {P : Nat → Prop} {a : Option Addr} {n cap : Nat} {N : Nat → Int} {vs : Nat → Value} {S : Nat → S4} (o : LK w P (.slice a n cap) n N vs S) : ∃ q : Nat → K9, AllKept w a n q ∧ ∀ i, (q i).n = N i ∧ (q i).s = S i := by
  by_cases h0 : n = 0
  · exact ⟨fun i => ⟨⟨(S i).p, none, 0, (S i).rs, none, 0, (S i).os, (S i).c⟩, N i⟩, ⟨.inl h0, fun i hi => by omega⟩, fun i => ⟨rfl, rfl⟩⟩
  obtain ⟨g, cap', e, -, hg, -, -⟩ := o.cell (show 0 < n by omega)
  simp only [Value.slice.injEq] at e
  obtain ⟨rfl, -, rfl⟩ := e
  have h : ∀ i, ∃ x : K9, (x.n = N i ∧ x.s = S i) ∧ (i < n → (w.cell? ⟨g, 0 + i * 5, none⟩ = some (.int .i64 x.n) ∧ w.cell? ⟨g, 0 + i * 5 + 1, none⟩ = some (.int .i64 x.p) ∧ w.cell? ⟨g, 0 + i * 5 + 2, none⟩ = some (.slice x.ra x.rs.length x.rc) ∧ w.cell? ⟨g, 0 + i * 5 + 3, none⟩ = some (.slice x.oa x.os.length x.oc) ∧ w.cell? ⟨g, 0 + i * 5 + 4, none⟩ = some (.int .i64 x.c)) ∧ Sl w x.ra x.rs ∧ Sl w x.oa x.os) := by
    intro i
    by_cases hi : i < n
    · obtain ⟨g', cap2, e2, -, -, ⟨ra, rc, oa, oc, ev, a0, a1, a2, a3, a4⟩, -⟩ := o.cell hi
      simp only [Value.slice.injEq, Option.some.injEq, Addr.mk.injEq, and_true, true_and] at e2
      obtain ⟨rfl, -⟩ := e2
      refine ⟨⟨⟨(S i).p, ra, rc, (S i).rs, oa, oc, (S i).os, (S i).c⟩, N i⟩, ⟨rfl, rfl⟩, fun _ => ⟨?_, ?_⟩⟩
      · rw [Nat.zero_add]
        exact ⟨a0, a1, a2, a3, a4⟩
      · obtain ⟨x1, x2, x3, x4, e, s1, s2⟩ := (o.own i hi).read
        rw [ev] at e
        simp only [Value.agg.injEq, Array.mk.injEq, List.cons.injEq, Value.slice.injEq, and_true, true_and] at e
        obtain ⟨⟨rfl, rfl⟩, rfl, rfl⟩ := e
        exact ⟨s1, s2⟩
    · exact ⟨⟨⟨(S i).p, none, 0, (S i).rs, none, 0, (S i).os, (S i).c⟩, N i⟩, ⟨rfl, rfl⟩, fun h => absurd h hi⟩
  exact ⟨fun i => Classical.choose (h i), ⟨.inr ⟨g, 0, rfl, hg, fun i hi => ((Classical.choose_spec (h i)).2 hi).1⟩, fun i hi => ((Classical.choose_spec (h i)).2 hi).2⟩, fun i => (Classical.choose_spec (h i)).1⟩

/-- The states that are kept: behind 0, 8, 16, .. events. -/
def kaS (g : Nat → I5) (n : Nat) (eh : Nat → E3) (i : Nat) : S4 := resS (repO g n eh (8 * i))
noncomputable def kaN (g : Nat → I5) (n : Nat) (eh : Nat → E3) (m : Nat) : Nat := if (repO g n eh m).isSome = true then m / 8 + 1 else 0

def KaR (w : World) (g : Nat → I5) (n : Nat) (eh : Nat → E3) (m : Nat) (e : Ending) (w' : World) : Prop := ∃ a cap vs, e = .returned (.slice a (kaN g n eh m) cap) ∧ LK w' (fun k => w.heap.size ≤ k) (.slice a (kaN g n eh m) cap) (kaN g n eh m) (fun i => ((8 * i : Nat) : Int)) vs (kaS g n eh) ∧ Below w.heap.size w w' ∧ a ≠ none

set_option maxRecDepth 100000 in
set_option maxHeartbeats 2000000 in
theorem specKeepAll_any (gb n gc : Nat) (ea : Option Addr) (m ec : Nat) (g : Nat → I5) (eh : Nat → E3) (w : World) (hn : n ≤ maxLen) (hg : gb < w.heap.size) (hI : InsAt w gb 0 n g) (hE : EvL w ea m eh) (hm : m ≤ 1048576) (hec : m ≤ ec) :
    Calls Tryz.prog 7 #[.slice (some ⟨gb, 0, none⟩) n gc, .slice ea m ec] w (KaR w g n eh m) := by
  have hm' : (m : Int) ≤ 1048576 := by omega
  have HR : Hid (∀ wx j, j ≤ m → Below w.heap.size w wx → Calls Tryz.prog 25 #[.slice (some ⟨gb, 0, none⟩) n gc, .slice ea j ec] wx (DoneR wx (resS (repO g n eh j)) (repO g n eh j).isSome)) := fun wx j hj hb => specReplay_l gb n gc ea j ec g eh wx hn (Nat.lt_of_lt_of_le hg hb.size) (hI.below hb hg) ((hE.below hb).take hj) (by omega)
  have HEC : Hid (m ≤ ec) := hec
  have LK0 : Hid (LK (w.alloc (.cells #[] 53)) (fun k => w.heap.size ≤ k) (.slice (some ⟨w.heap.size, 0, none⟩) 0 0) 0 (fun i => ((8 * i : Nat) : Int)) (fun _ => .int .i64 0) (kaS g n eh)) := LK.made w _ (Nat.le_refl _) _ _ _
  have BA : Hid (Below w.heap.size w (w.alloc (.cells #[] 53))) := below_alloc _ _
  clear hI hE hn hg hec
  go_enter Tryz.func7, Tryz.ntmps7
  go_wp2_with fail
  generalize w.alloc (.cells #[] 53) = wa at *
  refine (HR.out wa m (Nat.le_refl _) BA.out).mono ?_
  rintro e w1 ⟨v1, rfl, o1, b1⟩
  obtain ⟨ra, rc, oa, oc, rfl, -, -⟩ := o1.read
  generalize hb0 : (repO g n eh m).isSome = ok at *
  have HOK : Hid ((repO g n eh m).isSome = ok) := hb0
  clear hb0
  generalize resS (repO g n eh m) = S0 at *
  have BQ : Below wa.heap.size wa (w1.alloc (.cells #[.int .i64 S0.p, .slice ra S0.rs.length rc, .slice oa S0.os.length oc, .int .i64 S0.c] 43)) := b1.trans ((below_alloc _ _).mono b1.size)
  have LK1 : Hid (LK (w1.alloc (.cells #[.int .i64 S0.p, .slice ra S0.rs.length rc, .slice oa S0.os.length oc, .int .i64 S0.c] 43)) (fun k => w.heap.size ≤ k) (.slice (some ⟨w.heap.size, 0, none⟩) 0 0) 0 (fun i => ((8 * i : Nat) : Int)) (fun _ => .int .i64 0) (kaS g n eh) ∧ Below w.heap.size w (w1.alloc (.cells #[.int .i64 S0.p, .slice ra S0.rs.length rc, .slice oa S0.os.length oc, .int .i64 S0.c] 43))) := ⟨LK0.out.below BQ, BA.out.trans (BQ.mono BA.out.size)⟩
  clear o1 b1 BQ LK0 BA
  go_upto_region 3 with fail
  generalize w1.alloc (.cells #[.int .i64 S0.p, .slice ra S0.rs.length rc, .slice oa S0.os.length oc, .int .i64 S0.c] 43) = w2 at *
  cases ok
  case false =>
    have HN : Hid (kaN g n eh m = 0) := by
      show kaN g n eh m = 0
      unfold kaN
      rw [HOK.out]
      rfl
    have h0 : (0 : Int) ≤ (m : Int) := by omega
    go_wp2_with fail
    go_loopw [5, 8] (fun v i wr => v = .slice (some ⟨w.heap.size, 0, none⟩) 0 0 ∧ i = .int .i64 0 ∧ wr = w2) (fun _ _ _ => 0)
    case atStart => exact ⟨rfl, rfl, rfl⟩
    case round =>
      obtain ⟨rfl, rfl, rfl⟩ := hrel
      go_wp2
      refine bodyPost_ret (v := .slice (some ⟨w.heap.size, 0, none⟩) 0 0) (by simp [results, Tryz.results7, go_sem]) rfl ?_
      unfold KaR
      rw [HN.out]
      exact ⟨_, _, _, rfl, LK1.out.1, LK1.out.2, fun h => by cases h⟩
  case true =>
    have HN : Hid (kaN g n eh m = m / 8 + 1) := by
      show kaN g n eh m = m / 8 + 1
      unfold kaN
      rw [HOK.out]
      rfl
    go_wp2_with fail
    go_loopw [5, 8] (fun v i wr => ∃ (k : Nat) (a : Option Addr) (cap : Nat) (vs : Nat → Value), 8 * k ≤ m + 8 ∧ i = .int .i64 ((8 * k : Nat) : Int) ∧ v = .slice a k cap ∧ Hid (LK wr (fun j => w.heap.size ≤ j) (.slice a k cap) k (fun i => ((8 * i : Nat) : Int)) vs (kaS g n eh) ∧ Below w.heap.size w wr)) (fun _ i _ => m + 8 - (intOf i).toNat)
    case atStart => exact ⟨0, _, _, _, by omega, rfl, rfl, LK1.out⟩
    case round =>
      clear LK1
      obtain ⟨k, a, cap, vs, hk, rfl, rfl, HK⟩ := hrel
      by_cases hlt : 8 * k ≤ m
      · have hlt' : ((8 * k : Nat) : Int) ≤ (m : Int) := by omega
        have hsl := slice_kp ea m ec (8 * k) (Nat.le_trans hlt HEC.out)
        generalize hJ : 8 * k = J at *
        have HJ : Hid (8 * k = J) := hJ
        clear hJ
        go_wp2_with fail
        clear hsl
        refine (HR.out wr J hlt HK.out.2).mono ?_
        rintro e w3 ⟨v3, rfl, o3, b3⟩
        obtain ⟨ra3, rc3, oa3, oc3, rfl, -, -⟩ := o3.read
        have HSk : Hid (resS (repO g n eh J) = kaS g n eh k) := by
          show resS (repO g n eh J) = kaS g n eh k
          unfold kaS
          rw [HJ.out]
        rw [HSk.out] at o3 ⊢
        generalize (repO g n eh J).isSome = okJ
        have bq := below_alloc w3 (.cells #[.int .i64 (kaS g n eh k).p, .slice ra3 (kaS g n eh k).rs.length rc3, .slice oa3 (kaS g n eh k).os.length oc3, .int .i64 (kaS g n eh k).c] 43)
        have B4 : Hid (Below wr.heap.size wr (w3.alloc (.cells #[.int .i64 (kaS g n eh k).p, .slice ra3 (kaS g n eh k).rs.length rc3, .slice oa3 (kaS g n eh k).os.length oc3, .int .i64 (kaS g n eh k).c] 43))) := b3.trans (bq.mono b3.size)
        have O4 : Hid (StOwn (w3.alloc (.cells #[.int .i64 (kaS g n eh k).p, .slice ra3 (kaS g n eh k).rs.length rc3, .slice oa3 (kaS g n eh k).os.length oc3, .int .i64 (kaS g n eh k).c] 43)) wr.heap.size (stV (kaS g n eh k).p ra3 (kaS g n eh k).rs.length rc3 oa3 (kaS g n eh k).os.length oc3 (kaS g n eh k).c) (kaS g n eh k).p (kaS g n eh k).rs (kaS g n eh k).os (kaS g n eh k).c) := o3.below bq
        have N4 : Hid (BoxC (w3.alloc (.cells #[.int .i64 (kaS g n eh k).p, .slice ra3 (kaS g n eh k).rs.length rc3, .slice oa3 (kaS g n eh k).os.length oc3, .int .i64 (kaS g n eh k).c] 43)) w3.heap.size (.int .i64 (kaS g n eh k).p) (.slice ra3 (kaS g n eh k).rs.length rc3) (.slice oa3 (kaS g n eh k).os.length oc3) (.int .i64 (kaS g n eh k).c)) := BoxC.new w3 _ _ _ _ _
        clear o3 b3 bq HSk
        go_upto_region 7 with fail
        generalize w3.alloc (.cells #[.int .i64 (kaS g n eh k).p, .slice ra3 (kaS g n eh k).rs.length rc3, .slice oa3 (kaS g n eh k).os.length oc3, .int .i64 (kaS g n eh k).c] 43) = w4 at *
        generalize w3.heap.size = M3 at *
        obtain ⟨y0, y1, y2, y3⟩ := N4.out
        go_wp2_with (at_builtin; refine step_append_val kndK w4 rfl rfl _ _ rfl 0 (.slice a k cap) k _ rfl (HK.out.1.below B4.out).row #[.int .i64 (J : Int), .int .i64 (kaS g n eh k).p, .slice ra3 (kaS g n eh k).rs.length rc3, .slice oa3 (kaS g n eh k).os.length oc3, .int .i64 (kaS g n eh k).c] rfl rfl (by intro u hu; simp at hu; rcases hu with rfl | rfl | rfl | rfl | rfl <;> rfl) (by have := HJ.out; omega) (Nat.zero_le _) ?_; intro v5 w5 r2 r3 r4 r5; obtain ⟨a5, c5, rfl⟩ := ownsRow_sliceK r2; have hap := HK.out.1.appended (N := fun i => ((8 * i : Nat) : Int)) (S := kaS g n eh) B4.out O4.out (fun j hj => Nat.le_trans HK.out.2.size hj) (by rw [HJ.out]; exact r2) r3 r4; have HN5 : Hid (LK w5 (fun j => w.heap.size ≤ j) (.slice a5 (k + 1) c5) (k + 1) (fun i => ((8 * i : Nat) : Int)) _ (kaS g n eh) ∧ Below w.heap.size w w5) := ⟨hap.1, HK.out.2.trans ⟨hap.2.os, hap.2.tape, hap.2.output, hap.2.size, fun j hj => hap.2.block j (Nat.lt_of_lt_of_le hj HK.out.2.size) (by omega)⟩⟩; clear hap r2 r3 r4 r5 y0 y1 y2 y3)
        go_roundw
        case rel => exact ⟨k + 1, a5, c5, _, by have := HJ.out; omega, by have := HJ.out; go_num, rfl, HN5.out⟩
        case measure => simp [intOf]; omega
      · have hkk : kaN g n eh m = k := by rw [HN.out]; omega
        have hlt' : ¬ ((8 * k : Nat) : Int) ≤ (m : Int) := by omega
        have HKK : Hid (kaN g n eh m = k) := hkk
        clear hkk
        go_wp2
        refine bodyPost_ret (v := .slice a k cap) (by simp [results, Tryz.results7, go_sem]) rfl ?_
        unfold KaR
        rw [HKK.out]
        refine ⟨_, _, _, rfl, HK.out.1, HK.out.2, fun h => ?_⟩
        obtain ⟨D0, cap0, ea, -⟩ := HK.out.1.cell (i := 0) (by have := HN.out; have := HKK.out; omega)
        rw [h] at ea
        cases ea

end Go.Proofs.YtkoghgnbolaooaaGreat
