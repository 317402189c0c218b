/- The walks of the program's canCome and settled. -/
import Derived.Test.YtdmpcnmbnfdfmaaGreatDoorFc0
import Derived.Test.YtdmpcnmbnfdfmaaGreatDoorFc12
import Derived.Deep.RegionWith
import Derived.Test.YtdmpcnmbnfdfmaaGreatDoorFc17
import Derived.Test.YtdmpcnmbnfdfmaaGreatDoorFc16
import Derived.Test.YtdmpcnmbnfdfmaaGreatDoorFc11
namespace Go.Proofs.YtdmpcnmbnfdfmaaGreatDoor
set_option maxRecDepth 100000
set_option maxHeartbeats 4000000
open Go.RowKit
def lenV : Value → Nat
 | .slice _ n _ => n
 | _ => 0
theorem Lst.frozen {w : World} {B n g cap : Nat} (h : Lst w B (.slice (some ⟨g, 0, none⟩) n cap) n) (j : Nat) : w.frozen? ⟨g, j, none⟩ = false := by
 obtain ⟨xs, ho, hx⟩ := h
 exact ho.frozenAt j
def Way (w wr : World) (W0 c len cap : Nat) (a0 : Option Addr) (g n gc : Nat) : Prop :=
 Lst wr w.heap.size (.slice (some ⟨g, 0, none⟩) n gc) n ∧ Cur wr W0 c a0 len cap ∧ w.grownBy wr (some c)
theorem Way.step {w wr w' : World} {W0 c len cap g n gc : Nat} {a0 : Option Addr} (h : Way w wr W0 c len cap a0 g n gc) (hcl : c < w.heap.size) (hc : Cur w' W0 c a0 len cap) (hg : wr.grownBy w' (some c)) : Way w w' W0 c len cap a0 g n gc :=
 ⟨h.1.kept hg (fun j hj => by cases hj; exact hcl), hc, h.2.2.trans hg⟩
theorem Way.set {w wr : World} {W0 c len cap g n gc : Nat} {a0 : Option Addr} (h : Way w wr W0 c len cap a0 g n gc) (hcl : c < w.heap.size) (hcg : W0 ≤ c) (j : Nat) (x : Int) : Way w (wr.setCell ⟨g, j, none⟩ (.int .i64 x)) W0 c len cap a0 g n gc := by
 have hg := h.1.own g rfl
 exact ⟨h.1.set j x, h.2.1.setOther (p := ⟨g, j, none⟩) (by simp; omega) (by simp; omega) _, grown_setCell (p := ⟨g, j, none⟩) h.2.2 (.inr hg) _⟩
theorem l1DrawAny_any (W0 c len cap : Nat) (a0 : Option Addr) (w : World) (hc : Cur w W0 c a0 len cap) :
  Calls Tryz.prog 19 #[.pointer (some ⟨c, 0, none⟩)] w fun e w' => ∃ g n gc : Nat, e = .returned (.slice (some ⟨g, 0, none⟩) n gc) ∧ n ≤ 31 ∧ Way w w' W0 c len cap a0 g n gc := by
 have HC0 : Hid (Cur w W0 c a0 len cap) := hc
 have hcl := hc.lt
 have hcg := hc.ge
 clear hc
 go_enter Tryz.func19, Tryz.ntmps19
 go_wp2_with fail
 refine (l1Below_any W0 c len cap a0 _ _ HC0.out (by omega) (by omega)).mono ?_
 rintro e w1 ⟨me, rfl, ⟨m0, m1⟩, hc1, hg1⟩
 have HC1 : Hid (Cur w1 W0 c a0 len cap) := hc1
 have HG1 : Hid (w.grownBy w1 (some c)) := hg1
 have hs1 := hg1.size
 clear hc1 hg1 HC0
 go_wp2_with fail
 refine (l1DrawProg_any W0 c len cap a0 _ _ HC1.out m0 m1).mono ?_
 rintro e w2 ⟨v, n, rfl, ⟨n0, n1⟩, hl2, hc2, hg2⟩
 have hvf : ∃ g gc, v = .slice (some ⟨g, 0, none⟩) n gc ∧ w1.heap.size ≤ g ∧ g < w2.heap.size := hl2.form (by omega)
 obtain ⟨g, gc, hv, hgB, hgl⟩ := hvf
 rw [hv]
 rw [hv] at hl2
 have HW2 : Hid (Way w w2 W0 c len cap a0 g n gc) := ⟨hl2.mono hs1, hc2, HG1.out.trans hg2⟩
 have n0' : (1 : Int) ≤ (n : Int) := by omega
 have n1' : (n : Int) ≤ 11 := by omega
 clear hl2 hc2 hg2 HC1 HG1 hv hs1
 go_wp2_with fail
 refine (l1Once_any W0 c len cap a0 _ _ HW2.out.2.1 (by omega) (by omega)).mono ?_
 rintro e w3 ⟨t, rfl, hc3, hg3⟩
 have HW3 : Hid (Way w w3 W0 c len cap a0 g n gc) := HW2.out.step hcl hc3 hg3
 clear hc3 hg3 HW2
 cases t
 case true =>
  go_wp2_with fail
  refine (l1Below_any W0 c len cap a0 _ _ HW3.out.2.1 n0' (by omega)).mono ?_
  rintro e w4 ⟨x, rfl, ⟨x0, x1⟩, hc4, hg4⟩
  obtain ⟨k, rfl⟩ := Int.eq_ofNat_of_zero_le x0
  have hk : k < n := by omega
  have HW4 : Hid (Way w w4 W0 c len cap a0 g n gc) := HW3.out.step hcl hc4 hg4
  obtain ⟨G, hG⟩ := HW4.out.1.at
  obtain ⟨c0, c1, c2, c3, c4⟩ := hG k hk
  rw [Nat.zero_add] at c0 c1 c2 c3 c4
  clear hc4 hg4 HW3 hG
  go_wp2_with fail
  refine (l1Spoil_any W0 c len cap a0 _ _ _ _ _ _ HW4.out.2.1).mono ?_
  rintro e w5 ⟨o, r, a, b, nn, rfl, hc5, hg5⟩
  have HW5 : Hid (Way w w5 W0 c len cap a0 g n gc) := HW4.out.step hcl hc5 hg5
  obtain ⟨G5, hG5⟩ := HW5.out.1.at
  obtain ⟨d0, d1, d2, d3, d4⟩ := hG5 k hk
  rw [Nat.zero_add] at d0 d1 d2 d3 d4
  have f0 := HW5.out.1.frozen (k * 5)
  have f1 := HW5.out.1.frozen (k * 5 + 1)
  have f2 := HW5.out.1.frozen (k * 5 + 2)
  have f3 := HW5.out.1.frozen (k * 5 + 3)
  have f4 := HW5.out.1.frozen (k * 5 + 4)
  clear hc5 hg5 HW4 hG5 c0 c1 c2 c3 c4
  have HW6 : Hid (Way w (((((w5.setCell ⟨g, k * 5, none⟩ (.int .i64 o)).setCell ⟨g, k * 5 + 1, none⟩ (.int .i64 r)).setCell ⟨g, k * 5 + 2, none⟩ (.int .i64 a)).setCell ⟨g, k * 5 + 3, none⟩ (.int .i64 b)).setCell ⟨g, k * 5 + 4, none⟩ (.int .i64 nn)) W0 c len cap a0 g n gc) :=
   ((((HW5.out.set hcl hcg _ _).set hcl hcg _ _).set hcl hcg _ _).set hcl hcg _ _).set hcl hcg _ _
  go_wp2_with fail
  refine (l1Once_any W0 c len cap a0 _ _ HW6.out.2.1 (by omega) (by omega)).mono ?_
  rintro e w7 ⟨t, rfl, hc7, hg7⟩
  have HW7 : Hid (Way w w7 W0 c len cap a0 g n gc) := HW6.out.step hcl hc7 hg7
  clear hc7 hg7 HW6 HW5 d0 d1 d2 d3 d4 f0 f1 f2 f3 f4
  cases t
  case false =>
   go_wp2
   go_ret
   exact ⟨g, n, gc, rfl, by omega, HW7.out⟩
  case true =>
   go_wp2_with fail
   go_loopw [3] (fun l wr => ∃ m g' gc' : Nat, (1 ≤ m ∧ m ≤ 31) ∧ l = .slice (some ⟨g', 0, none⟩) m gc' ∧ Hid (Way w wr W0 c len cap a0 g' m gc')) (fun l _ => 32 - lenV l)
   case atStart => exact ⟨n, g, gc, by omega, rfl, HW7⟩
   case round =>
    obtain ⟨m, g', gc', ⟨m0, m1⟩, rfl, HR⟩ := hrel
    go_wp2_with fail
    refine (l1Below_any W0 c len cap a0 _ _ HR.out.2.1 (by omega) (by omega)).mono ?_
    rintro e w8 ⟨y, rfl, ⟨y0, y1⟩, hc8, hg8⟩
    have HW8 : Hid (Way w w8 W0 c len cap a0 g' m gc') := HR.out.step hcl hc8 hg8
    have hs8 := HW8.out.2.2.size
    clear hc8 hg8 HR
    by_cases hlt : (m : Int) < 30 + y
    ·go_wp2_with (at_builtin; refine append_ins w8 rfl _ _ rfl w.heap.size (.slice (some ⟨g', 0, none⟩) m gc') m rfl HW8.out.1 11 0 0 0 0 rfl (by omega) hs8 ?_; intro v' w9 hl9 hg9; have HC9 : Hid (Cur w9 W0 c a0 len cap ∧ w.grownBy w9 (some c)) := ⟨Lst.cur HW8.out.1 HW8.out.2.1 hg9 hcl hcg, (HW8.out.2.2.trans (World.grownBy_alloc _ _ _)).andThen hg9 (fun j hj => .inl (HW8.out.1.own j hj))⟩; obtain ⟨g9, c9, hv9, _, _⟩ := hl9.form (by omega); rw [hv9]; rw [hv9] at hl9; have HL9 : Hid (Lst w9 w.heap.size (.slice (some ⟨g9, 0, none⟩) (m + 1) c9) (m + 1)) := hl9; clear hl9 hg9 HW8 hv9 v')
     go_roundw
     case rel => exact ⟨m + 1, g9, c9, by omega, rfl, HL9.out, HC9.out⟩
     case measure => simp [lenV]; omega
    ·go_wp2
     go_ret
     exact ⟨g', m, gc', rfl, by omega, HW8.out⟩
 case false =>
  go_wp2_with fail
  refine (l1Once_any W0 c len cap a0 _ _ HW3.out.2.1 (by omega) (by omega)).mono ?_
  rintro e w7 ⟨t, rfl, hc7, hg7⟩
  have HW7 : Hid (Way w w7 W0 c len cap a0 g n gc) := HW3.out.step hcl hc7 hg7
  clear hc7 hg7 HW3
  cases t
  case false =>
   go_wp2
   go_ret
   exact ⟨g, n, gc, rfl, by omega, HW7.out⟩
  case true =>
   go_wp2_with fail
   go_loopw [3] (fun l wr => ∃ m g' gc' : Nat, (1 ≤ m ∧ m ≤ 31) ∧ l = .slice (some ⟨g', 0, none⟩) m gc' ∧ Hid (Way w wr W0 c len cap a0 g' m gc')) (fun l _ => 32 - lenV l)
   case atStart => exact ⟨n, g, gc, by omega, rfl, HW7⟩
   case round =>
    obtain ⟨m, g', gc', ⟨m0, m1⟩, rfl, HR⟩ := hrel
    go_wp2_with fail
    refine (l1Below_any W0 c len cap a0 _ _ HR.out.2.1 (by omega) (by omega)).mono ?_
    rintro e w8 ⟨y, rfl, ⟨y0, y1⟩, hc8, hg8⟩
    have HW8 : Hid (Way w w8 W0 c len cap a0 g' m gc') := HR.out.step hcl hc8 hg8
    have hs8 := HW8.out.2.2.size
    clear hc8 hg8 HR
    by_cases hlt : (m : Int) < 30 + y
    ·go_wp2_with (at_builtin; refine append_ins w8 rfl _ _ rfl w.heap.size (.slice (some ⟨g', 0, none⟩) m gc') m rfl HW8.out.1 11 0 0 0 0 rfl (by omega) hs8 ?_; intro v' w9 hl9 hg9; have HC9 : Hid (Cur w9 W0 c a0 len cap ∧ w.grownBy w9 (some c)) := ⟨Lst.cur HW8.out.1 HW8.out.2.1 hg9 hcl hcg, (HW8.out.2.2.trans (World.grownBy_alloc _ _ _)).andThen hg9 (fun j hj => .inl (HW8.out.1.own j hj))⟩; obtain ⟨g9, c9, hv9, _, _⟩ := hl9.form (by omega); rw [hv9]; rw [hv9] at hl9; have HL9 : Hid (Lst w9 w.heap.size (.slice (some ⟨g9, 0, none⟩) (m + 1) c9) (m + 1)) := hl9; clear hl9 hg9 HW8 hv9 v')
     go_roundw
     case rel => exact ⟨m + 1, g9, c9, by omega, rfl, HL9.out, HC9.out⟩
     case measure => simp [lenV]; omega
    ·go_wp2
     go_ret
     exact ⟨g', m, gc', rfl, by omega, HW8.out⟩
open Go.Deep
def Room (w : World) (b len : Nat) : Prop := (∀ i, i < len * 5 → ∃ u, w.cell? ⟨b, i, none⟩ = some u) ∧ ∀ j, w.frozen? ⟨b, j, none⟩ = false
open Go.ChangeShapes Go.WideShapes Go.ChangeAt
structure E3 where
 k : Int
 q : Int
 v : Int
def EvAt (w : World) (b off len : Nat) (h : Nat → E3) : Prop := ∀ i, i < len →
 w.cell? ⟨b, off + i * 3, none⟩ = some (.int .i64 (h i).k) ∧ w.cell? ⟨b, off + i * 3 + 1, none⟩ = some (.int .i64 (h i).q) ∧ w.cell? ⟨b, off + i * 3 + 2, none⟩ = some (.int .i64 (h i).v)
theorem EvAt.below {w w' : World} {B b off len : Nat} {h : Nat → E3} (hh : EvAt w b off len h) (hb : Below B w w') (hB : b < B) : EvAt w' b off len h := by
 intro i hi
 obtain ⟨h0, h1, h2⟩ := hh i hi
 exact ⟨(hb.cell hB).trans h0, (hb.cell hB).trans h1, (hb.cell hB).trans h2⟩
def FilledE (f : Nat → Value) (h : Nat → E3) (k : Nat) : Prop := ∀ i, i < k →
 f (i * 3) = .int .i64 (h i).k ∧ f (i * 3 + 1) = .int .i64 (h i).q ∧ f (i * 3 + 2) = .int .i64 (h i).v
structure I2 where
 m : Bool
 v : Int
abbrev itV (m : Bool) (v : Int) : Value := .agg #[.bool m, .int .i64 v]
def ItAt (w : World) (b off len : Nat) (h : Nat → I2) : Prop := ∀ i, i < len →
 w.cell? ⟨b, off + i * 2, none⟩ = some (.bool (h i).m) ∧ w.cell? ⟨b, off + i * 2 + 1, none⟩ = some (.int .i64 (h i).v)
theorem ItAt.below {w w' : World} {B b off len : Nat} {h : Nat → I2} (hh : ItAt w b off len h) (hb : Below B w w') (hB : b < B) : ItAt w' b off len h := by
 intro i hi
 obtain ⟨h0, h1⟩ := hh i hi
 exact ⟨(hb.cell hB).trans h0, (hb.cell hB).trans h1⟩
def FilledT (f : Nat → Value) (h : Nat → I2) (k : Nat) : Prop := ∀ i, i < k →
 f (i * 2) = .bool (h i).m ∧ f (i * 2 + 1) = .int .i64 (h i).v
def RoomT (w : World) (b len : Nat) : Prop := (∀ i, i < len * 2 → ∃ u, w.cell? ⟨b, i, none⟩ = some u) ∧ ∀ j, w.frozen? ⟨b, j, none⟩ = false
def EvL (w : World) (a : Option Addr) (len : Nat) (h : Nat → E3) : Prop := len = 0 ∨ ∃ b off, a = some ⟨b, off, none⟩ ∧ b < w.heap.size ∧ EvAt w b off len h
theorem EvL.below {w w' : World} {a : Option Addr} {len : Nat} {h : Nat → E3} (hh : EvL w a len h) (hb : Below w.heap.size w w') : EvL w' a len h := by
 rcases hh with e | ⟨b, off, e, hlt, hc⟩
 ·exact .inl e
 ·exact .inr ⟨b, off, e, Nat.lt_of_lt_of_le hlt hb.size, hc.below hb hlt⟩
theorem EvL.at {w : World} {a : Option Addr} {len : Nat} {h : Nat → E3} (hh : EvL w a len h) {k : Nat} (hk : k < len) : ∃ b off, a = some ⟨b, off, none⟩ ∧ b < w.heap.size ∧ w.cell? ⟨b, off + k * 3, none⟩ = some (.int .i64 (h k).k) ∧ w.cell? ⟨b, off + k * 3 + 1, none⟩ = some (.int .i64 (h k).q) ∧ w.cell? ⟨b, off + k * 3 + 2, none⟩ = some (.int .i64 (h k).v) := by
 rcases hh with rfl | ⟨b, off, e, hlt, hc⟩
 ·omega
 ·exact ⟨b, off, e, hlt, hc k hk⟩
theorem EvL.take {w : World} {a : Option Addr} {len : Nat} {h : Nat → E3} (hh : EvL w a len h) {k : Nat} (hk : k ≤ len) : EvL w a k h := by
 rcases hh with rfl | ⟨b, off, e, hlt, hc⟩
 ·exact .inl (by omega)
 ·exact .inr ⟨b, off, e, hlt, fun i hi => hc i (by omega)⟩
theorem EvL.one {w : World} {b off len : Nat} {h : Nat → E3} (hh : EvL w (some ⟨b, off, none⟩) len h) {k : Nat} (hk : k < len) : EvAt w b off len h ∧ b < w.heap.size := by
 rcases hh with rfl | ⟨b', off', e, hlt, hc⟩
 ·omega
 ·simp only [Option.some.injEq, Addr.mk.injEq] at e
  obtain ⟨rfl, rfl, -⟩ := e
  exact ⟨hc, hlt⟩
theorem append_one {ops : Array Oper} {rest : List Oper} {op : Oper} {act : Act} {Q : Exit → Act → World → Prop} (w : World) (hgd : op.guard = none) (s x : Operand)
  (ho : op.op = .call { callee := .builtin .append, args := #[s, x], argTypes := #[35, 35] })
  (B : Nat) (v : Value) (xs : List Int) (hs : act.eval s = v) (hv : OwnI w B v xs) (y : Int) (hx : act.eval x = .slice (some ⟨w.heap.size, 0, none⟩) 1 1) (hn : xs.length ≤ 1048576) (hB : B ≤ w.heap.size)
  (h : ∀ v' w', OwnI w' B v' (xs ++ [y]) → Below B w w' → wpList Tryz.prog ops Q rest (act.put op.dst v') w') :
  wpList Tryz.prog ops Q (op :: rest) act (w.alloc (.cells #[.int .i64 y] 3)) := by
 have hb : Below w.heap.size w (w.alloc (.cells #[.int .i64 y] 3)) := (Below.refl _ _).alloc (Nat.le_refl _) _
 refine wpList_append_ints _ hgd s x ho B 1 v (some ⟨w.heap.size, 0, none⟩) xs [y] hs hx (hv.below hb) (.inr ⟨w.heap.size, 0, rfl, by simp, fun i hi => ?_⟩) (by simp; omega) (by simp; omega) ?_
 ·have : i = 0 := by simp at hi; omega
  subst this
  exact new_cell _ _ _ 0 rfl
 ·intro v' w' o g _
  refine h v' w' o (Below.grown (hb.mono hB) g (by simp; omega) (fun k hk => (hv.lt k hk).1))
theorem append_oneN {ops : Array Oper} {rest : List Oper} {op : Oper} {act : Act} {Q : Exit → Act → World → Prop} (w : World) {N : Nat} (hN : N = w.heap.size) (hgd : op.guard = none) (s x : Operand)
  (ho : op.op = .call { callee := .builtin .append, args := #[s, x], argTypes := #[35, 35] })
  (B : Nat) (v : Value) (xs : List Int) (hs : act.eval s = v) (hv : OwnI w B v xs) (y : Int) (hx : act.eval x = .slice (some ⟨N, 0, none⟩) 1 1) (hn : xs.length ≤ 1048576) (hB : B ≤ w.heap.size)
  (h : ∀ v' w', OwnI w' B v' (xs ++ [y]) → Below B w w' → wpList Tryz.prog ops Q rest (act.put op.dst v') w') :
  wpList Tryz.prog ops Q (op :: rest) act (w.alloc (.cells #[.int .i64 y] 3)) := by
 subst hN
 exact append_one w hgd s x ho B v xs hs hv y hx hn hB h
theorem OwnI.to {w : World} {B : Nat} {v : Value} {xs ys : List Int} (h : OwnI w B v xs) (e : ys = xs) : OwnI w B v ys := e ▸ h
def hitB (eh : Nat → E3) (kd pr : Int) (i : Nat) : Bool := ((eh i).k == kd) && ((eh i).q == pr)
def plN (eh : Nat → E3) (kd pr : Int) : Nat → List Nat
 | 0 => []
 | n + 1 => if hitB eh kd pr n = true then plN eh kd pr n ++ [n] else plN eh kd pr n
def valL (eh : Nat → E3) (kd pr : Int) (n : Nat) : List Int := (plN eh kd pr n).map fun i => (eh i).v
def plI (eh : Nat → E3) (kd pr : Int) (n : Nat) : List Int := (plN eh kd pr n).map fun i : Nat => (i : Int)
theorem plN_le (eh : Nat → E3) (kd pr : Int) : ∀ n, (plN eh kd pr n).length ≤ n
 | 0 => Nat.le_refl _
 | n + 1 => by
  unfold plN
  have := plN_le eh kd pr n
  split
  ·simp; omega
  ·omega
theorem valL_le (eh : Nat → E3) (kd pr : Int) (n : Nat) : (valL eh kd pr n).length ≤ n := by
 unfold valL
 rw [List.length_map]
 exact plN_le eh kd pr n
theorem plI_le (eh : Nat → E3) (kd pr : Int) (n : Nat) : (plI eh kd pr n).length ≤ n := by
 unfold plI
 rw [List.length_map]
 exact plN_le eh kd pr n
theorem valL_hit {eh : Nat → E3} {kd pr : Int} {n : Nat} (hh : hitB eh kd pr n = true) : valL eh kd pr (n + 1) = valL eh kd pr n ++ [(eh n).v] := by
 unfold valL
 rw [plN, if_pos hh, List.map_append]
 rfl
theorem valL_not {eh : Nat → E3} {kd pr : Int} {n : Nat} (hh : hitB eh kd pr n = false) : valL eh kd pr (n + 1) = valL eh kd pr n := by
 unfold valL
 rw [plN, if_neg (by rw [hh]; decide)]
theorem plI_hit {eh : Nat → E3} {kd pr : Int} {n : Nat} (hh : hitB eh kd pr n = true) : plI eh kd pr (n + 1) = plI eh kd pr n ++ [(n : Int)] := by
 unfold plI
 rw [plN, if_pos hh, List.map_append]
 rfl
theorem plI_not {eh : Nat → E3} {kd pr : Int} {n : Nat} (hh : hitB eh kd pr n = false) : plI eh kd pr (n + 1) = plI eh kd pr n := by
 unfold plI
 rw [plN, if_neg (by rw [hh]; decide)]
theorem canCome_any (nk np nv k q v : Int) (w : World) :
  Calls Tryz.prog 88 #[evV nk np nv, evV k q v] w fun e w' => e = .returned (.bool (canB nk np nv k q v)) ∧ Below w.heap.size w w' := by
 have he := fun wx => eql_ev k q v nk np nv wx
 by_cases c1 : nk = 3
 case neg =>
  have c1' : (nk != 3) = true := by simpa using c1
  by_cases c2 : nk = 0
  ·subst c2
   have hv : Hid (canB 0 np nv k q v = false) := by simp [Hid, canB]
   go_enter Tryz.func88, Tryz.ntmps88
   go_wp2_with (first | (go_at_call 75; refine (isNum_any _ _).mono ?_; rintro e w' ⟨rfl, rfl⟩) | (go_at_call 25; refine (isBelow_any _ _ _).mono ?_; rintro e w' ⟨rfl, rfl⟩))
   refine bodyPost_ret (v := .bool (false)) (by simp [results, Tryz.results88, go_sem]) rfl ⟨by rw [hv.out], ?_⟩
   go_grown
  ·have c2' : (nk != 0) = true := by simpa using c2
   have hv : Hid (canB nk np nv k q v = evEqB k q v nk np nv) := by simp [Hid, canB, evEqB, c1, c2']
   clear c1 c2
   go_enter Tryz.func88, Tryz.ntmps88
   go_wp2_with (first | (go_at_call 75; refine (isNum_any _ _).mono ?_; rintro e w' ⟨rfl, rfl⟩) | (go_at_call 25; refine (isBelow_any _ _ _).mono ?_; rintro e w' ⟨rfl, rfl⟩))
   refine bodyPost_ret (v := .bool (evEqB k q v nk np nv)) (by simp [results, Tryz.results88, go_sem]) rfl ⟨by rw [hv.out], ?_⟩
   go_grown
 subst c1
 by_cases c2 : k = 3
 case neg =>
  have c2' : (k != 3) = true := by simpa using c2
  have hv : Hid (canB 3 np nv k q v = false) := by simp [Hid, canB, c2]
  clear c2
  go_enter Tryz.func88, Tryz.ntmps88
  go_wp2_with (first | (go_at_call 75; refine (isNum_any _ _).mono ?_; rintro e w' ⟨rfl, rfl⟩) | (go_at_call 25; refine (isBelow_any _ _ _).mono ?_; rintro e w' ⟨rfl, rfl⟩))
  refine bodyPost_ret (v := .bool (false)) (by simp [results, Tryz.results88, go_sem]) rfl ⟨by rw [hv.out], ?_⟩
  go_grown
 subst c2
 rcases Bool.eq_false_or_eq_true (numB v) with c3 | c3
 case inr =>
  have hv : Hid (canB 3 np nv 3 q v = false) := by simp [Hid, canB, c3]
  have c3' : inB v (-1000000000) 1000000000 = false := c3
  clear c3
  go_enter Tryz.func88, Tryz.ntmps88
  go_wp2_with (first | (go_at_call 75; refine (isNum_any _ _).mono ?_; rintro e w' ⟨rfl, rfl⟩) | (go_at_call 25; refine (isBelow_any _ _ _).mono ?_; rintro e w' ⟨rfl, rfl⟩))
  refine bodyPost_ret (v := .bool (false)) (by simp [results, Tryz.results88, go_sem]) rfl ⟨by rw [hv.out], ?_⟩
  go_grown
 by_cases c4 : np = 9
 ·subst c4
  have hv : Hid (canB 3 9 nv 3 q v = belB q 4) := by simp [Hid, canB, c3]
  have c3' : inB v (-1000000000) 1000000000 = true := c3
  clear c3
  go_enter Tryz.func88, Tryz.ntmps88
  go_wp2_with (first | (go_at_call 75; refine (isNum_any _ _).mono ?_; rintro e w' ⟨rfl, rfl⟩) | (go_at_call 25; refine (isBelow_any _ _ _).mono ?_; rintro e w' ⟨rfl, rfl⟩))
  refine bodyPost_ret (v := .bool (belB q 4)) (by simp [results, Tryz.results88, go_sem]) rfl ⟨by rw [hv.out], ?_⟩
  go_grown
 ·have c4' : (np == 9) = false := by simpa using c4
  have hv : Hid (canB 3 np nv 3 q v = (q == np)) := by simp [Hid, canB, c3, c4]
  have c3' : inB v (-1000000000) 1000000000 = true := c3
  clear c3 c4
  go_enter Tryz.func88, Tryz.ntmps88
  go_wp2_with (first | (go_at_call 75; refine (isNum_any _ _).mono ?_; rintro e w' ⟨rfl, rfl⟩) | (go_at_call 25; refine (isBelow_any _ _ _).mono ?_; rintro e w' ⟨rfl, rfl⟩))
  refine bodyPost_ret (v := .bool (q == np)) (by simp [results, Tryz.results88, go_sem]) rfl ⟨by rw [hv.out], ?_⟩
  go_grown
end Go.Proofs.YtdmpcnmbnfdfmaaGreatDoor
