/- The walk of the program's told. -/
import Derived.Test.YtcmmlklanjhfoaaGreatDoorGa45
namespace Go.Proofs.YtcmmlklanjhfoaaGreatDoor
open Go.ChangeShapes Go.WideShapes Go.ChangeAt Go.RowKit Go.Deep Go.Maps

/-- What the library's sort does with a row of kept states. -/
def SortC : Prop := ∀ (k blk cap : Nat) (L : Nat → Nat) (V : Nat → Value) (S : Nat → S4) (w : World), (∀ i, i < k → Cel5 w blk (i * 5) ((L i : Nat) : Int) (S (L i)) (V (L i))) → (∀ j, w.frozen? ⟨blk, j, none⟩ = false) → blk < w.heap.size → k ≤ 1000 →
  Calls Tryz.prog 41 #[.slice (some ⟨blk, 0, none⟩) k cap, .func (.func 42) #[] #[]] w fun e w' => e = .returned (.tuple #[]) ∧ ∃ L' : Nat → Nat, (∀ i, i < k → ∃ j, j < k ∧ L' i = L j) ∧ (∀ j, j < k → ∃ i, i < k ∧ L' i = L j) ∧ (∀ i j, i < j → j < k → L' i ≤ L' j) ∧ ((∀ i j, i < k → j < k → i ≠ j → L i ≠ L j) → ∀ i j, i < k → j < k → i ≠ j → L' i ≠ L' j) ∧ (∀ i, i < k → Cel5 w' blk (i * 5) ((L' i : Nat) : Int) (S (L' i)) (V (L' i))) ∧ (∀ j, w'.frozen? ⟨blk, j, none⟩ = false) ∧ Touch (fun x => x = blk) w w'

/-- Ascending, all the eighths up to m, each once. -/
theorem eighths {m k : Nat} {L : Nat → Nat} (h1 : ∀ i, i < k → L i ≤ m ∧ L i % 8 = 0) (h2 : ∀ j, j ≤ m → j % 8 = 0 → ∃ i, i < k ∧ L i = j) (h3 : ∀ i j, i < j → j < k → L i < L j) : k = m / 8 + 1 ∧ ∀ i, i < k → L i = 8 * i := by
  have h4 : ∀ i, i < k → L i = 8 * i := by
    intro i
    induction i using Nat.strongRecOn with
    | _ i ih =>
      intro hi
      have hge : 8 * i ≤ L i := by
        cases i with
        | zero => omega
        | succ i =>
          have e1 := ih i (by omega) (by omega)
          have e2 := h3 i (i + 1) (by omega) hi
          have e3 := (h1 (i + 1) hi).2
          omega
      by_cases e : L i = 8 * i
      · exact e
      · obtain ⟨j, hj, ej⟩ := h2 (8 * i) (by have := (h1 i hi).1; omega) (by omega)
        by_cases hji : j < i
        · have := ih j hji hj
          omega
        · by_cases hji2 : j = i
          · subst hji2
            omega
          · have := h3 i j (by omega) hj
            omega
  refine ⟨?_, h4⟩
  obtain ⟨j, hj, ej⟩ := h2 (m / 8 * 8) (by omega) (by omega)
  have e1 := h4 j hj
  have e2 := h4 (k - 1) (by omega)
  have e3 := (h1 (k - 1) (by omega)).1
  omega

/-- Kept states in a row, of one's own, seen by their cells. -/
structure OKB (w : World) (P : Nat → Prop) (D n : Nat) (N : Nat → Int) (vs : Nat → Value) (S : Nat → S4) : Prop where
  cel : ∀ i, i < n → Cel5 w D (i * 5) (N i) (S i) (vs i)
  own : ∀ i, i < n → StOwn w 0 (vs i) (S i).p (S i).rs (S i).os (S i).c
  rb : P D
  ob : ∀ i, i < n → ∀ k, hasBlock (vs i) k → P k
  ra : ∀ i, i < n → ¬ hasBlock (vs i) D
  oa : ∀ i j, i < n → j < n → i ≠ j → ∀ k, hasBlock (vs i) k → ¬ hasBlock (vs j) k
  fr : ∀ j, w.frozen? ⟨D, j, none⟩ = false
  lt : D < w.heap.size

def ToR (w : World) (T : Nat) (g : Nat → I5) (n : Nat) (eh : Nat → E3) (m : Nat) (V : Nat → Value) (e : Ending) (w' : World) : Prop := ∃ D cap r, e = .returned (.slice (some ⟨D, 0, none⟩) (m / 8 + 1) cap) ∧ OKB w' (fun x => T ≤ x ∧ x ≠ r) D (m / 8 + 1) (fun i => ((8 * i : Nat) : Int)) (fun i => V (8 * i)) (fun i => sAt g n eh (8 * i)) ∧ Below w.heap.size w w'

set_option maxRecDepth 100000 in
set_option maxHeartbeats 4000000 in
theorem told_any (HSort : Hid SortC) (b T m n : Nat) (g : Nat → I5) (eh : Nat → E3) (V : Nat → Value) (D : DataW Value) (w : World) (hS : StoP w b T m g n eh V D (fun j => decide (j % 8 = 0))) (hap : ∀ i j, i < j → j ≤ m → ∀ x, hasBlock (V i) x → ¬ hasBlock (V j) x) (hT : T ≤ w.heap.size) (hm : m ≤ 200) :
    Calls Tryz.prog 20 #[.map (some b)] w (ToR w T g n eh m V) := by
  have HS : Hid (StoP w b T m g n eh V D (fun j => decide (j % 8 = 0))) := hS
  have HAP : Hid (∀ i j, i < j → j ≤ m → ∀ x, hasBlock (V i) x → ¬ hasBlock (V j) x) := hap
  have HTw : Hid (T ≤ w.heap.size) := hT
  have hown := hS.own
  have hcs := hS.own.size_le
  have hbw := hS.own.lt
  generalize hc : Maps.size D = c at hcs
  have hmk := run_make_kpc c (by omega)
  have HC : Hid (Maps.size D = c ∧ c ≤ m + 1) := ⟨hc, hcs⟩
  obtain ⟨w2, hrn, hrg, hg2, hs2⟩ := (hS.own.alloc (.cells (madeCells #[.int .i64 0, .int .i64 0, .slice none 0 0, .slice none 0 0, .int .i64 0] (c * 5)) 48)).range kInt Tryz.underlying43
  have hz1 : (w.alloc (.cells (madeCells #[.int .i64 0, .int .i64 0, .slice none 0 0, .slice none 0 0, .int .i64 0] (c * 5)) 48)).heap.size = w.heap.size + 1 := by simp
  have b1 := below_alloc w (.cells (madeCells #[.int .i64 0, .int .i64 0, .slice none 0 0, .slice none 0 0, .int .i64 0] (c * 5)) 48)
  have lk1 := LK.madeC w (fun x => T ≤ x ∧ x ≠ w.heap.size + 1) ⟨hT, by omega⟩ c (by omega) (fun i => (((fun _ => 0 : Nat → Nat) i : Nat) : Int)) (fun i => V ((fun _ => 0 : Nat → Nat) i)) (fun i => sAt g n eh ((fun _ => 0 : Nat → Nat) i))
  rw [hz1] at hrn hrg hs2
  have HT0 : Hid (w2.ranges Tryz.prog 3 RV b (w.heap.size + 1) (m + 1) D (Maps.has D) (Maps.size D) ∧ To w w2 (w.heap.size + 1) T m 0 g n eh V (fun _ => 0) (.slice (some ⟨w.heap.size, 0, none⟩) 0 c) (Maps.has D)) := by
    have b2 : Below (w.heap.size + 1) (w.alloc (.cells (madeCells #[.int .i64 0, .int .i64 0, .slice none 0 0, .slice none 0 0, .int .i64 0] (c * 5)) 48)) w2 := ⟨hg2.os, hg2.tape, hg2.output, hg2.size, fun k hk => hg2.block k (by omega) (by simp)⟩
    refine ⟨hrg, (lk1.below (hz1 ▸ b2)), b1.trans (b2.mono (by omega)), fun i hi => by omega, fun i j hi => by omega, fun j => ?_, fun x hx => ?_⟩
    · rw [hS.key]
      simp only [Bool.and_eq_true, decide_eq_true_eq]
      constructor
      · intro h
        exact ⟨by omega, by omega, fun i hi => by omega⟩
      · intro h
        exact ⟨⟨by omega, by omega⟩, by omega⟩
    · cases hx
      exact Nat.le_refl _
  have hrn' := hrn
  clear hS hap hrg hg2 hs2 b1 lk1 hrn
  go_enter Tryz.func20, Tryz.ntmps20
  go_wp2_with (at_len; refine wpList_len_own _ rfl _ 43 rfl 3 32 Tryz.underlying43 RV b (m + 1) D rfl hown ?_; rw [hc])
  clear hmk hrn' hz1 hown hc hcs
  go_loopw [3] (fun v wr => ∃ (k : Nat) (L : Nat → Nat) (a : Option Addr) (cap : Nat) (left : Lit → Bool) (cnt : Nat), v = .slice a k cap ∧ wr.ranges Tryz.prog 3 RV b (w.heap.size + 1) (m + 1) D left cnt ∧ k + cnt ≤ m + 1 ∧ Hid (To w wr (w.heap.size + 1) T m k g n eh V L (.slice a k cap) left)) (fun _ wr => wr.rangeLeft b (w.heap.size + 1))
  case atStart => exact ⟨0, _, _, _, _, _, rfl, HT0.out.1, by have := HC.out; omega, HT0.out.2⟩
  case round =>
    clear HT0
    obtain ⟨k, L, a, cap, left, cnt, rfl, hrg, hkc, HTo⟩ := hrel
    rcases hrg.next kInt 0 with ⟨h0, hl, hrun⟩ | ⟨key, v, kl, y, w3, cnt1, hkey, hlk, hv, hat, hrun, hrg3, hlt, hg3, hs3, hen⟩
    · have hall : ∀ j, j ≤ m → j % 8 = 0 → ∃ i, i < k ∧ L i = j := fun j h1 h2 => by
        have h3 : ¬ (j ≤ m ∧ j % 8 = 0 ∧ ∀ i, i < k → L i ≠ j) := fun h => by
          have := (HTo.out.lf j).2 h
          rw [hl] at this
          cases this
        by_cases h4 : ∃ i, i < k ∧ L i = j
        · exact h4
        · exact absurd ⟨h1, h2, fun i hi e => h4 ⟨i, hi, e⟩⟩ h3
      have hk0 : 0 < k := by
        obtain ⟨i, hi, -⟩ := hall 0 (Nat.zero_le _) rfl
        omega
      obtain ⟨D0, cap0, ea, hPD, hD, -, -⟩ := HTo.out.lk.cell hk0
      simp only [Value.slice.injEq, true_and] at ea
      obtain ⟨rfl, rfl⟩ := ea
      have hcel : ∀ i, i < k → Cel5 wr D0 (i * 5) ((L i : Nat) : Int) (sAt g n eh (L i)) (V (L i)) := fun i hi => by
        obtain ⟨D1, cap1, e1, -, -, hc1, -⟩ := HTo.out.lk.cell hi
        simp only [Value.slice.injEq, Option.some.injEq, Addr.mk.injEq, and_true, true_and] at e1
        obtain ⟨rfl, -⟩ := e1
        exact hc1
      have hfr : ∀ j, wr.frozen? ⟨D0, j, none⟩ = false := HTo.out.lk.row.frozenAt
      have hk9 : k ≤ 1000 := by omega
      have HC9 := HSort.out k D0 cap L V (sAt g n eh) wr hcel hfr hD hk9
      have HWB : Hid (w.heap.size ≤ D0) := HTo.out.vb D0 rfl
      have HAll : Hid (∀ j, j ≤ m → j % 8 = 0 → ∃ i, i < k ∧ L i = j) := hall
      have HPD : Hid ((T ≤ D0 ∧ D0 ≠ w.heap.size + 1) ∧ D0 < wr.heap.size) := ⟨hPD, hD⟩
      clear hrg hl hall hcel hfr hPD hD
      go_wp2_with fail
      refine HC9.mono ?_
      rintro e w5 ⟨rfl, L', p1, p2, p3, p4, p5, p6, p7⟩
      have HE : Hid (ToR w T g n eh m V (.returned (.slice (some ⟨D0, 0, none⟩) k cap)) w5) := by
        have q1 : ∀ i, i < k → L' i ≤ m ∧ L' i % 8 = 0 := fun i hi => by
          obtain ⟨j, hj, e⟩ := p1 i hi
          rw [e]
          exact HTo.out.le j hj
        have q2 : ∀ j, j ≤ m → j % 8 = 0 → ∃ i, i < k ∧ L' i = j := fun j h1 h2 => by
          obtain ⟨i, hi, e⟩ := HAll.out j h1 h2
          obtain ⟨i', hi', e'⟩ := p2 i hi
          exact ⟨i', hi', by omega⟩
        have q3 : ∀ i j, i < j → j < k → L' i < L' j := fun i j hij hj => by
          have h1 := p3 i j hij hj
          have h2 := p4 HTo.out.ne i j (by omega) hj (by omega)
          omega
        obtain ⟨ek, eL⟩ := eighths q1 q2 q3
        have hob : ∀ j, j ≤ m → ∃ S, rp g n eh j = some S ∧ StOwn w T (V j) S.p S.rs S.os S.c := HS.out.st
        have hst : ∀ j, j ≤ m → StOwn w T (V j) (sAt g n eh j).p (sAt g n eh j).rs (sAt g n eh j).os (sAt g n eh j).c := fun j hj => by
          obtain ⟨S, e1, o⟩ := hob j hj
          unfold sAt
          rw [e1]
          exact o
        have hbl : Below w.heap.size w w5 := HTo.out.be.trans ⟨p7.os, p7.tape, p7.output, p7.size, fun x hx => p7.block x (Nat.lt_of_lt_of_le hx HTo.out.be.size) fun e => by
          have := HWB.out
          omega⟩
        have h8 : ∀ i, i < m / 8 + 1 → 8 * i ≤ m := fun i hi => by omega
        rw [ek] at p5 eL ⊢
        refine ⟨D0, cap, w.heap.size + 1, rfl, ⟨fun i hi => ?_, fun i hi => ?_, HPD.out.1, fun i hi x hx => ?_, fun i hi hx => ?_, fun i j hi hj hij x hx => ?_, p6, Nat.lt_of_lt_of_le HPD.out.2 p7.size⟩, hbl⟩
        · have := p5 i hi
          rw [eL i hi] at this
          exact this
        · exact ((hst (8 * i) (h8 i hi)).blk fun x hx => hbl.block x ((hst (8 * i) (h8 i hi)).lt hx).2).mono (Nat.zero_le _)
        · have h1 := (hst (8 * i) (h8 i hi)).lt hx
          exact ⟨h1.1, by omega⟩
        · have h1 := (hst (8 * i) (h8 i hi)).lt hx
          have := HWB.out
          omega
        · rcases Nat.lt_or_gt_of_ne hij with h | h
          · exact HAP.out (8 * i) (8 * j) (by omega) (h8 j hj) x hx
          · exact fun h2 => HAP.out (8 * j) (8 * i) (by omega) (h8 i hi) x h2 hx
      clear p1 p2 p3 p4 p5 p6 p7 HC9 HTo HAll HPD
      go_wp2
      exact bodyPost_ret (v := .slice (some ⟨D0, 0, none⟩) k cap) (by simp [results, Tryz.results20, go_sem]) rfl HE.out
    · obtain ⟨x, rfl, rfl, hwf⟩ := Maps.keyOf_int_inv Tryz.underlying3 hkey
      have hhx : Maps.has D (.int .i64 x) = true := has_true_of_atKey hat
      rw [HS.out.key] at hhx
      simp only [Bool.and_eq_true, decide_eq_true_eq] at hhx
      obtain ⟨j, rfl⟩ : ∃ j : Nat, x = j := ⟨x.toNat, by omega⟩
      have hj : j ≤ m ∧ j % 8 = 0 := by omega
      have hnew := ((HTo.out.lf j).1 hlk).2.2
      have ev : v = V j := by
        have h1 := HS.out.val j hj.1 (by simp; omega) (.held v)
        have h2 := hat (.held v)
        simp only [Option.some.injEq] at hv
        rw [← hv, h1] at h2
        injection h2 with h2
        exact h2.symm
      subst ev
      have hst : ∀ i, i ≤ m → StOwn w T (V i) (sAt g n eh i).p (sAt g n eh i).rs (sAt g n eh i).os (sAt g n eh i).c := fun i hi => by
        obtain ⟨S, e1, o⟩ := HS.out.st i hi
        unfold sAt
        rw [e1]
        exact o
      obtain ⟨ra, rc, oa, oc, eV, -, -⟩ := (hst j hj.1).read
      rw [eV] at hrun hen
      have hr : w.heap.size + 1 < wr.heap.size := hrg.lt
      have HLf : Hid (wr.rangeLeft b (w.heap.size + 1) = cnt) := hrg.left_eq
      have b3 : Below w.heap.size w w3 := HTo.out.be.trans ⟨hg3.os, hg3.tape, hg3.output, hg3.size, fun x hx => hg3.block x (Nat.lt_of_lt_of_le hx HTo.out.be.size) fun e => by
        injection e with e
        omega⟩
      have lk3 := HTo.out.lk.keep (w' := w3) fun x hP hx => hg3.block x hx fun e => hP.2 (by injection e)
      have LK3 : Hid (LK w3 (fun x => T ≤ x ∧ x ≠ w.heap.size + 1) (.slice a k cap) k (fun i => ((L i : Nat) : Int)) (fun i => V (L i)) (fun i => sAt g n eh (L i))) := lk3
      have B3 : Hid (Below w.heap.size w w3 ∧ w.heap.size + 1 < w3.heap.size) := ⟨b3, by omega⟩
      have HV : Hid (V j = stV (sAt g n eh j).p ra (sAt g n eh j).rs.length rc oa (sAt g n eh j).os.length oc (sAt g n eh j).c) := eV
      have HSt : Hid (∀ i, i ≤ m → StOwn w T (V i) (sAt g n eh i).p (sAt g n eh i).rs (sAt g n eh i).os (sAt g n eh i).c) := hst
      have HJ : Hid ((j ≤ m ∧ j % 8 = 0) ∧ ∀ i, i < k → L i ≠ j) := ⟨hj, hnew⟩
      have HRG : Hid (w3.ranges Tryz.prog 3 RV b (w.heap.size + 1) (m + 1) D (fun z => left z && !z.sameKey (.int .i64 (j : Int))) cnt1 ∧ cnt1 < cnt) := ⟨hrg3, hlt⟩
      have hk2 : k ≤ 2000000 := by omega
      clear hv hat hlk hhx hj hnew hst eV hrg hg3 hs3 b3 lk3 hrg3 hlt hr hkey hwf
      go_wp2_with (at_builtin; refine step_append_val (N := w3.heap.size + 1) kndK (w3.alloc (.cells #[.int .i64 (sAt g n eh j).p, .slice ra (sAt g n eh j).rs.length rc, .slice oa (sAt g n eh j).os.length oc, .int .i64 (sAt g n eh j).c] 32)) (by simp) rfl _ _ rfl 0 (.slice a k cap) k _ rfl (LK3.out.below (below_alloc _ _)).row #[.int .i64 ((j : Nat) : Int), .int .i64 (sAt g n eh j).p, .slice ra (sAt g n eh j).rs.length rc, .slice oa (sAt g n eh j).os.length oc, .int .i64 (sAt g n eh j).c] rfl rfl (by intro u hu; simp at hu; rcases hu with rfl | rfl | rfl | rfl | rfl <;> rfl) hk2 (Nat.zero_le _) ?_; intro v5 w5 r2 r3 r4 r5; obtain ⟨a5, c5, rfl⟩ := ownsRow_sliceK r2; have R5 : Hid (w5.ownsRow 0 48 5 (.slice a5 (k + 1) c5) (k + 1) (flat (fun i => .int .i64 ((L i : Nat) : Int) :: cellsL (V (L i))) k ++ #[.int .i64 ((j : Nat) : Int), .int .i64 (sAt g n eh j).p, .slice ra (sAt g n eh j).rs.length rc, .slice oa (sAt g n eh j).os.length oc, .int .i64 (sAt g n eh j).c].toList) ∧ (w3.alloc (.cells #[.int .i64 (sAt g n eh j).p, .slice ra (sAt g n eh j).rs.length rc, .slice oa (sAt g n eh j).os.length oc, .int .i64 (sAt g n eh j).c] 32)).grownBy w5 (Value.slice a k cap).ownBlock ∧ ∀ x, (Value.slice a5 (k + 1) c5).ownBlock = some x → (Value.slice a k cap).ownBlock = some x ∨ (w3.alloc (.cells #[.int .i64 (sAt g n eh j).p, .slice ra (sAt g n eh j).rs.length rc, .slice oa (sAt g n eh j).os.length oc, .int .i64 (sAt g n eh j).c] 32)).heap.size ≤ x) := ⟨r2, r3, r4⟩; clear r2 r3 r4 r5)
      have HN : Hid (∃ L' : Nat → Nat, w5.ranges Tryz.prog 3 RV b (w.heap.size + 1) (m + 1) D (fun z => left z && !z.sameKey (.int .i64 (j : Int))) cnt1 ∧ To w w5 (w.heap.size + 1) T m (k + 1) g n eh V L' (.slice a5 (k + 1) c5) (fun z => left z && !z.sameKey (.int .i64 (j : Int)))) := by
        obtain ⟨r2, r3, r4⟩ := R5.out
        obtain ⟨L', hL'⟩ : ∃ L' : Nat → Nat, L' = fun i => if i = k then j else L i := ⟨_, rfl⟩
        have e1 : ∀ i, i < k → L' i = L i := fun i hi => by rw [hL']; simp only [if_neg (show i ≠ k by omega)]
        have e2 : L' k = j := by rw [hL']; simp
        have bq := below_alloc w3 (.cells #[.int .i64 (sAt g n eh j).p, .slice ra (sAt g n eh j).rs.length rc, .slice oa (sAt g n eh j).os.length oc, .int .i64 (sAt g n eh j).c] 32)
        have vb := HTo.out.vb
        have hsz4 : (w3.alloc (.cells #[.int .i64 (sAt g n eh j).p, .slice ra (sAt g n eh j).rs.length rc, .slice oa (sAt g n eh j).os.length oc, .int .i64 (sAt g n eh j).c] 32)).heap.size = w3.heap.size + 1 := by simp
        have stj := HSt.out j HJ.out.1.1
        have lk5 : LK w5 (fun x => T ≤ x ∧ x ≠ w.heap.size + 1) (.slice a5 (k + 1) c5) (k + 1) (fun i => ((L' i : Nat) : Int)) (fun i => V (L' i)) (fun i => sAt g n eh (L' i)) := by
          refine (LK3.out.congr (N' := fun i => ((L' i : Nat) : Int)) (vs' := fun i => V (L' i)) (S' := fun i => sAt g n eh (L' i)) fun i hi => ⟨by rw [e1 i hi], by rw [e1 i hi], by rw [e1 i hi]⟩).pushOld bq ?_ ?_ r3 r4 (fun x hx => ?_) (fun i hi x hx => ?_) (fun x hx _ => ?_)
          · show StOwn w3 0 (V (L' k)) (sAt g n eh (L' k)).p (sAt g n eh (L' k)).rs (sAt g n eh (L' k)).os (sAt g n eh (L' k)).c
            rw [e2]
            exact (stj.blk fun x hx => B3.out.1.block x (stj.lt hx).2).mono (Nat.zero_le _)
          · rw [flat_congr (g := fun i => .int .i64 ((L i : Nat) : Int) :: cellsL (V (L i))) fun i hi => by rw [e1 i hi], e2, HV.out]
            exact r2
          · have hx : hasBlock (V (L' k)) x := hx
            rw [e2] at hx
            have h1 := stj.lt hx
            refine ⟨⟨h1.1, by omega⟩, fun e => ?_⟩
            have := vb x e
            omega
          · have hx : hasBlock (V (L' i)) x := hx
            show ¬ hasBlock (V (L' k)) x
            rw [e1 i hi] at hx
            rw [e2]
            have h1 := HTo.out.le i hi
            have h2 := HJ.out.2 i hi
            rcases Nat.lt_or_gt_of_ne h2 with h | h
            · exact HAP.out _ _ h HJ.out.1.1 x hx
            · exact fun h3 => HAP.out _ _ h h1.1 x h3 hx
          · have h1 := B3.out.2
            have h2 := HTw.out
            exact ⟨by omega, by omega⟩
        refine ⟨L', (HRG.out.1.alloc _).kept r3 (fun e => ?_) (fun e => ?_), lk5, ?_, fun i hi => ?_, fun i i' hi hi' hii => ?_, fun i => ?_, fun x hx => ?_⟩
        · have h1 := vb b e.symm
          omega
        · exact (HTo.out.lk.rb _ e.symm).2 rfl
        · refine (B3.out.1.trans (bq.mono B3.out.1.size)).trans ⟨r3.os, r3.tape, r3.output, r3.size, fun x hx => r3.block x (by have := B3.out.2; omega) fun e => ?_⟩
          have := vb x e.symm
          omega
        · by_cases e : i = k
          · rw [e, e2]
            exact HJ.out.1
          · rw [e1 i (by omega)]
            exact HTo.out.le i (by omega)
        · by_cases e : i = k
          · rw [e, e2, e1 i' (by omega)]
            exact fun h => HJ.out.2 i' (by omega) h.symm
          · rw [e1 i (by omega)]
            by_cases e' : i' = k
            · rw [e', e2]
              exact HJ.out.2 i (by omega)
            · rw [e1 i' (by omega)]
              exact HTo.out.ne i i' (by omega) (by omega) hii
        · rw [sameKey_int]
          simp only [Bool.and_eq_true, Bool.not_eq_true', decide_eq_false_iff_not]
          rw [HTo.out.lf i]
          constructor
          · intro ⟨⟨h1, h2, h3⟩, h4⟩
            refine ⟨h1, h2, fun q hq => ?_⟩
            by_cases e : q = k
            · rw [e, e2]
              omega
            · rw [e1 q (by omega)]
              exact h3 q (by omega)
          · intro ⟨h1, h2, h3⟩
            refine ⟨⟨h1, h2, fun q hq => ?_⟩, fun e => ?_⟩
            · have := h3 q (by omega)
              rw [e1 q hq] at this
              exact this
            · have := h3 k (by omega)
              rw [e2] at this
              omega
        · rcases r4 x hx with e | e
          · exact vb x e
          · have := B3.out.2
            omega
      obtain ⟨L', hrg5, hTo5⟩ := HN.out
      have HF : Hid (w5.ranges Tryz.prog 3 RV b (w.heap.size + 1) (m + 1) D (fun z => left z && !z.sameKey (.int .i64 (j : Int))) cnt1 ∧ To w w5 (w.heap.size + 1) T m (k + 1) g n eh V L' (.slice a5 (k + 1) c5) (fun z => left z && !z.sameKey (.int .i64 (j : Int))) ∧ w5.rangeLeft b (w.heap.size + 1) < wr.rangeLeft b (w.heap.size + 1) ∧ k + 1 + cnt1 ≤ m + 1) := ⟨hrg5, hTo5, by rw [hrg5.left_eq, HLf.out]; exact HRG.out.2, by have := HRG.out.2; omega⟩
      clear hrg5 hTo5 HN R5 LK3 HRG HLf
      go_roundw
      case rel => exact ⟨k + 1, L', a5, c5, _, _, rfl, HF.out.1, HF.out.2.2.2, HF.out.2.1⟩
      case measure => exact HF.out.2.2.1

end Go.Proofs.YtcmmlklanjhfoaaGreatDoor
