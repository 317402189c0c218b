/- Lists of states: the walks of the laws' own helpers on them. -/
import Derived.Test.YtfbjeabpibnacaaSsA
namespace Go.Proofs.Ytfbjeabpibnacaa
open Go.ChangeShapes Go.WideShapes Go.ChangeAt Go.RowKit Go.Deep

/-- A state that came in, with where its lists lie. -/
structure St8 where
  p : Int
  ra : Option Addr
  rc : Nat
  rs : List Int
  oa : Option Addr
  oc : Nat
  os : List Int
  c : Int
def St8.s (x : St8) : S4 := ⟨x.p, x.rs, x.os, x.c⟩
def lenS (S : Nat → S4) (i : Nat) : Nat := (S i).rs.length + (S i).os.length

/-- States that came in. -/
structure AllState (W : World) (a0 : Option Addr) (n : Nat) (q : Nat → St8) : Prop where
  row : n = 0 ∨ ∃ b off, a0 = some ⟨b, off, none⟩ ∧ b < W.heap.size ∧ ∀ i, i < n → W.cell? ⟨b, off + i * 4, none⟩ = some (.int .i64 (q i).p) ∧ W.cell? ⟨b, off + i * 4 + 1, none⟩ = some (.slice (q i).ra (q i).rs.length (q i).rc) ∧ W.cell? ⟨b, off + i * 4 + 2, none⟩ = some (.slice (q i).oa (q i).os.length (q i).oc) ∧ W.cell? ⟨b, off + i * 4 + 3, none⟩ = some (.int .i64 (q i).c)
  lst : ∀ i, i < n → Sl W (q i).ra (q i).rs ∧ Sl W (q i).oa (q i).os
theorem AllState.below {w w' : World} {a0 : Option Addr} {n : Nat} {q : Nat → St8} (h : AllState w a0 n q) (hb : Below w.heap.size w w') : AllState w' a0 n q := by
  refine ⟨?_, fun i hi => ⟨(h.lst i hi).1.below hb, (h.lst i hi).2.below hb⟩⟩
  rcases h.row with h | ⟨b, off, e, hlt, hc⟩
  · exact .inl h
  · exact .inr ⟨b, off, e, Nat.lt_of_lt_of_le hlt hb.size, fun i hi => by
      obtain ⟨h0, h1, h2, h3⟩ := hc i hi
      exact ⟨(hb.cell hlt).trans h0, (hb.cell hlt).trans h1, (hb.cell hlt).trans h2, (hb.cell hlt).trans h3⟩⟩
theorem AllState.at {w : World} {a0 : Option Addr} {n : Nat} {q : Nat → St8} (h : AllState w a0 n q) {k : Nat} (hk : k < n) : ∃ b off, a0 = some ⟨b, off, none⟩ ∧ w.cell? ⟨b, off + k * 4, none⟩ = some (.int .i64 (q k).p) ∧ w.cell? ⟨b, off + k * 4 + 1, none⟩ = some (.slice (q k).ra (q k).rs.length (q k).rc) ∧ w.cell? ⟨b, off + k * 4 + 2, none⟩ = some (.slice (q k).oa (q k).os.length (q k).oc) ∧ w.cell? ⟨b, off + k * 4 + 3, none⟩ = some (.int .i64 (q k).c) := by
  rcases h.row with rfl | ⟨b, off, e, -, hc⟩
  · omega
  · exact ⟨b, off, e, hc k hk⟩

set_option maxRecDepth 100000 in
set_option maxHeartbeats 1000000 in
theorem szStateS_small (a0 : Option Addr) (n cap : Nat) (q : Nat → St8) (L : Int) (w : World) (hr : AllState w a0 n q) (h : (n : Int) + (sumL (lenS fun i => (q i).s) n : Nat) ≤ L) (hL : L ≤ 1048576) :
    Calls Try.prog 14 #[.slice a0 n cap, .int .i64 L] w fun e w' => e = .returned (.int .i64 (L - n - (sumL (lenS fun i => (q i).s) n : Nat))) ∧ Below w.heap.size w w' := by
  have hn : (n : Int) ≤ 1048576 := by omega
  have h0 : 0 ≤ L := by omega
  have hn0 : ¬ (L - (n : Int) < 0) := by omega
  have HR : Hid (AllState w a0 n q) := hr
  have HS : Hid ((n : Int) + (sumL (lenS fun i => (q i).s) n : Nat) ≤ L) := h
  clear hr h
  generalize hls : (lenS fun i => (q i).s) = ls at *
  have HLS : Hid ((lenS fun i => (q i).s) = ls) := hls
  clear hls
  go_enter Try.func14, Try.ntmps14
  go_wp2_with fail
  go_loopw [1, 5] (fun x i wr => ∃ k : Nat, k ≤ n ∧ i = .int .i64 k ∧ x = .int .i64 (L - n - (sumL ls k : Nat)) ∧ Below w.heap.size w wr) (fun _ i _ => n - (intOf i).toNat)
  case atStart => exact ⟨0, Nat.zero_le _, rfl, by simp [sumL], Below.refl _ _⟩
  case round =>
    obtain ⟨k, hk, rfl, rfl, hbw⟩ := hrel
    by_cases hlt : k < n
    · have hlt' : (k : Int) < (n : Int) := by omega
      obtain ⟨b, off, rfl, c0, c1, c2, c3⟩ := (HR.out.below hbw).at hlt
      have hsl := sumL_at ls hlt
      have hlk : ls k = (q k).rs.length + (q k).os.length := by rw [← HLS.out]; rfl
      have hS := HS.out
      have e1 : (L - n - (sumL ls k : Nat)) - ((q k).rs.length : Int) - ((q k).os.length : Int) = L - n - (sumL ls (k + 1) : Nat) := by simp only [sumL]; omega
      have HE : Hid ((L - n - (sumL ls k : Nat)) - ((q k).rs.length : Int) - ((q k).os.length : Int) = L - n - (sumL ls (k + 1) : Nat)) := e1
      have e2 : ((q k).rs.length : Int) + ((q k).os.length : Int) ≤ L - n - (sumL ls k : Nat) := by omega
      have e3 : ¬ (L - n - (sumL ls (k + 1) : Nat) < 0) := by omega
      have e4 : L - n - (sumL ls k : Nat) ≤ 1048576 := by omega
      clear e1 hS hsl hlk
      generalize hy : L - n - (sumL ls (k + 1) : Nat) = Y at *
      go_wp2_with fail
      refine (szState_small _ _ _ _ _ _ _ _ _ _ e2 e4).mono ?_
      rintro e w1 ⟨rfl, b1⟩
      rw [HE.out]
      clear e2 e4 c0 c1 c2 c3
      go_wp2
      go_roundw
      case rel => exact ⟨k + 1, by omega, by go_num, by rw [← hy], hbw.trans (b1.mono hbw.size)⟩
      case measure => simp [intOf]; omega
    · have hkl : k = n := by omega
      subst hkl
      go_wp2
      go_ret
      exact ⟨rfl, hbw⟩

set_option maxRecDepth 100000 in
set_option maxHeartbeats 1000000 in
theorem szStateS_great (a0 : Option Addr) (n cap : Nat) (q : Nat → St8) (L : Int) (w : World) (hr : AllState w a0 n q) (h : L < (n : Int) + (sumL (lenS fun i => (q i).s) n : Nat)) (h0 : 0 ≤ L) (hL : L ≤ 1048576) (hm : n ≤ maxLen) (hl : ∀ i, i < n → (q i).rs.length ≤ maxLen ∧ (q i).os.length ≤ maxLen) :
    Calls Try.prog 14 #[.slice a0 n cap, .int .i64 L] w fun e w' => e = .returned (.int .i64 (-1)) ∧ Below w.heap.size w w' := by
  have hm' : (n : Int) ≤ 9223372036854775807 := by unfold maxLen at hm; omega
  by_cases hn0 : L - (n : Int) < 0
  · go_enter Try.func14, Try.ntmps14
    go_wp2
    go_ret
    exact ⟨rfl, Below.refl _ _⟩
  have hn : (n : Int) ≤ 1048576 := by omega
  have HR : Hid (AllState w a0 n q) := hr
  have HS : Hid (L < (n : Int) + (sumL (lenS fun i => (q i).s) n : Nat)) := h
  have HL : Hid (∀ i, i < n → (q i).rs.length ≤ maxLen ∧ (q i).os.length ≤ maxLen) := hl
  clear hr h hl hm
  generalize hls : (lenS fun i => (q i).s) = ls at *
  have HLS : Hid ((lenS fun i => (q i).s) = ls) := hls
  clear hls
  go_enter Try.func14, Try.ntmps14
  go_wp2_with fail
  go_loopw [1, 5] (fun x i wr => ∃ k : Nat, k ≤ n ∧ i = .int .i64 k ∧ x = .int .i64 (L - n - (sumL ls k : Nat)) ∧ 0 ≤ L - n - (sumL ls k : Nat) ∧ Below w.heap.size w wr) (fun _ i _ => n - (intOf i).toNat)
  case atStart => exact ⟨0, Nat.zero_le _, rfl, by simp [sumL], by simp only [sumL]; omega, Below.refl _ _⟩
  case round =>
    obtain ⟨k, hk, rfl, rfl, hp, hbw⟩ := hrel
    by_cases hlt : k < n
    · have hlt' : (k : Int) < (n : Int) := by omega
      obtain ⟨b, off, rfl, c0, c1, c2, c3⟩ := (HR.out.below hbw).at hlt
      obtain ⟨ml1, ml2⟩ := HL.out k hlt
      have hlk : ls k = (q k).rs.length + (q k).os.length := by rw [← HLS.out]; rfl
      have e1 : (L - n - (sumL ls k : Nat)) - ((q k).rs.length : Int) - ((q k).os.length : Int) = L - n - (sumL ls (k + 1) : Nat) := by simp only [sumL]; omega
      have HE : Hid ((L - n - (sumL ls k : Nat)) - ((q k).rs.length : Int) - ((q k).os.length : Int) = L - n - (sumL ls (k + 1) : Nat)) := e1
      have e4 : L - n - (sumL ls k : Nat) ≤ 1048576 := by omega
      clear e1 hlk
      by_cases hb : ((q k).rs.length : Int) + ((q k).os.length : Int) ≤ L - n - (sumL ls k : Nat)
      · have e3 : 0 ≤ L - n - (sumL ls (k + 1) : Nat) := by have := HE.out; omega
        have e3' : ¬ (L - n - (sumL ls (k + 1) : Nat) < 0) := by omega
        generalize hy : L - n - (sumL ls (k + 1) : Nat) = Y at *
        go_wp2_with fail
        refine (szState_small _ _ _ _ _ _ _ _ _ _ hb e4).mono ?_
        rintro e w1 ⟨rfl, b1⟩
        rw [HE.out]
        clear hb e4 hp c0 c1 c2 c3 ml1 ml2
        go_wp2
        go_roundw
        case rel => exact ⟨k + 1, by omega, by go_num, by rw [← hy], by omega, hbw.trans (b1.mono hbw.size)⟩
        case measure => simp [intOf]; omega
      · have hb' : L - n - (sumL ls k : Nat) < ((q k).rs.length : Int) + ((q k).os.length : Int) := by omega
        go_wp2_with fail
        refine (szState_great _ _ _ _ _ _ _ _ _ _ hb' e4 hp ml1 ml2).mono ?_
        rintro e w1 ⟨rfl, b1⟩
        clear hb hb' e4 hp HE c0 c1 c2 c3 ml1 ml2
        go_wp2
        go_ret
        exact ⟨rfl, hbw.trans (b1.mono hbw.size)⟩
    · have hkl : k = n := by omega
      subst hkl
      have := HS.out
      omega

end Go.Proofs.Ytfbjeabpibnacaa
