/- The walks of Count and Nth of lists that may be nil. -/
import Derived.Test.YtcplnkhdclcgfaaGreatDoorGc0
import Derived.Test.YtcplnkhdclcgfaaGreatDoorGc26
import Derived.Test.YtcplnkhdclcgfaaGreatDoorGc17
import Derived.Test.YtcplnkhdclcgfaaGreatDoorGc25
import Derived.Test.YtcplnkhdclcgfaaGreatDoorGc15
import Derived.Test.YtcplnkhdclcgfaaGreatDoorGc20
namespace Go.Proofs.YtcplnkhdclcgfaaGreatDoor
set_option maxRecDepth 100000
set_option maxHeartbeats 1000000
open Go.ChangeShapes Go.WideShapes Go.ChangeAt Go.RowKit Go.Deep
theorem open_stateCells {H : Type} {enc : TypeId × Value → H} {w : World} {base fuel : Nat} {held : Bool} {c0 c1 c2 c3 : Value} {x : DataW H × List MemPlace}
  (hf' : DataW.trod enc Tryz.prog w base (fun _ => true) held fuel 159 [c0, c1, c2, c3] = some x) :
  ∃ q : St8, (c0 = .int .i64 q.p ∧ c1 = .slice q.ra q.rs.length q.rc ∧ c2 = .slice q.oa q.os.length q.oc ∧ c3 = .int .i64 q.c) ∧ (q.rs.length ≤ maxLen ∧ q.os.length ≤ maxLen) ∧ Sl w q.ra q.rs ∧ Sl w q.oa q.os := by
 obtain ⟨xs, m, -, -, -, hl, hx⟩ := DataW.trod_struct Tryz.underlying159 hf'
 have hl : xs.length = 4 := hl
 have q0 : DataW.trod enc Tryz.prog w base (fun _ => true) held m 3 [c0] = xs[0]? := by simpa [cellsInt] using hx 0 _ rfl
 have q1 : DataW.trod enc Tryz.prog w base (fun _ => true) held m 37 [c1] = xs[1]? := by simpa [cellsInts] using hx 1 _ rfl
 have q2 : DataW.trod enc Tryz.prog w base (fun _ => true) held m 37 [c2] = xs[2]? := by simpa [cellsInts] using hx 2 _ rfl
 have q3 : DataW.trod enc Tryz.prog w base (fun _ => true) held m 3 [c3] = xs[3]? := by simpa [cellsInt] using hx 3 _ rfl
 rw [List.getElem?_eq_getElem (by omega)] at q0 q1 q2 q3
 obtain ⟨z0, e0, -, -⟩ := DataW.trod_int Tryz.underlying3 q0
 obtain ⟨z3, e3, -, -⟩ := DataW.trod_int Tryz.underlying3 q3
 obtain ⟨ra, rc, rs, rfl, hr, h1⟩ := open_intRow q1
 obtain ⟨oa, oc, os, rfl, ho, h2⟩ := open_intRow q2
 simp only [List.cons.injEq, and_true] at e0 e3
 subst e0 e3
 exact ⟨⟨z0, ra, rc, rs, oa, oc, os, z3⟩, ⟨rfl, rfl, rfl, rfl⟩, ⟨hr, ho⟩, h1, h2⟩
theorem open_StateS {H : Type} {enc : TypeId × Value → H} {w : World} {held : Bool} {base : Nat} {a0 : Option Addr} {len cap : Nat} {d : DataW H} {p : List MemPlace}
  (h : DataW.Trod enc Tryz.prog w base (fun _ => true) held 42 (.slice a0 len cap) d p) :
  len ≤ maxLen ∧ ∃ q, AllState w a0 len q ∧ ∀ i, i < len → (q i).rs.length ≤ maxLen ∧ (q i).os.length ≤ maxLen := by
 obtain ⟨fuel, hf⟩ := h
 have inh : Inhabited St8 := ⟨⟨0, none, 0, [], none, 0, [], 0⟩⟩
 rcases Go.Deep.open_slice Tryz.underlying42 hf with ⟨hcs, _⟩ | ⟨a, len', cap', m, n, D, Pl, hcs, _, hl, hm, hmm, _, hx⟩
 ·simp [Value.cells] at hcs
  obtain ⟨_, rfl, _⟩ := hcs
  exact ⟨Nat.zero_le _, fun _ => default, ⟨.inl rfl, fun i hi => by omega⟩, fun i hi => by omega⟩
 ·simp [Value.cells] at hcs
  obtain ⟨rfl, rfl, rfl⟩ := hcs
  refine ⟨Nat.le_trans hl hm, ?_⟩
  have hle : len ≤ m := by rw [hmm]; split <;> omega
  rw [cellsLawState] at hx
  obtain ⟨b, off, spot⟩ := a
  have hcell : ∀ i, i < len → ∃ q : St8, (w.cell? (Addr.add (Addr.add ⟨b, off, spot⟩ (i * 4)) 0) = some (.int .i64 q.p) ∧ w.cell? (Addr.add (Addr.add ⟨b, off, spot⟩ (i * 4)) 1) = some (.slice q.ra q.rs.length q.rc) ∧ w.cell? (Addr.add (Addr.add ⟨b, off, spot⟩ (i * 4)) 2) = some (.slice q.oa q.os.length q.oc) ∧ w.cell? (Addr.add (Addr.add ⟨b, off, spot⟩ (i * 4)) 3) = some (.int .i64 q.c)) ∧ (q.rs.length ≤ maxLen ∧ q.os.length ≤ maxLen) ∧ Sl w q.ra q.rs ∧ Sl w q.oa q.os := by
   intro i hi
   obtain ⟨cs', h1, h2⟩ := hx i (by omega)
   obtain ⟨_, hlen, hc⟩ := World.cells?_some h1
   match cs', hlen with
   | [c0, c1, c2, c3], _ =>
    obtain ⟨q, ⟨rfl, rfl, rfl, rfl⟩, hb, hs⟩ := open_stateCells h2
    exact ⟨q, ⟨hc 0 (by omega), hc 1 (by omega), hc 2 (by omega), hc 3 (by omega)⟩, hb, hs⟩
  obtain ⟨g, hg⟩ := Go.Deep.choose_lt (α := St8) hcell
  refine ⟨g, ⟨?_, fun i hi => (hg i hi).2.2⟩, fun i hi => (hg i hi).2.1⟩
  by_cases h0 : len = 0
  ·exact .inl h0
  have hspot : spot = none := by
   have hx0 := (hg 0 (by omega)).1.1
   simpa [Addr.add] using World.cell?_spot hx0
  subst hspot
  have hI : ∀ i, i < len → w.cell? ⟨b, off + i * 4, none⟩ = some (.int .i64 (g i).p) ∧ w.cell? ⟨b, off + i * 4 + 1, none⟩ = some (.slice (g i).ra (g i).rs.length (g i).rc) ∧ w.cell? ⟨b, off + i * 4 + 2, none⟩ = some (.slice (g i).oa (g i).os.length (g i).oc) ∧ w.cell? ⟨b, off + i * 4 + 3, none⟩ = some (.int .i64 (g i).c) := by
   intro i hi
   obtain ⟨⟨q0, q1, q2, q3⟩, -⟩ := hg i hi
   rw [addr_addO, addr_addO] at q0 q1 q2 q3
   exact ⟨q0, q1, q2, q3⟩
  exact .inr ⟨b, off, rfl, cell_lt (hI 0 (by omega)).1, hI⟩
def EvL (w : World) (a : Option Addr) (len : Nat) (h : Nat → E3) : Prop := len = 0 ∨ ∃ b off, a = some ⟨b, off, none⟩ ∧ b < w.heap.size ∧ EvAt w b off len h
theorem EvL.below {w w' : World} {a : Option Addr} {len : Nat} {h : Nat → E3} (hh : EvL w a len h) (hb : Below w.heap.size w w') : EvL w' a len h := by
 rcases hh with e | ⟨b, off, e, hlt, hc⟩
 ·exact .inl e
 ·exact .inr ⟨b, off, e, Nat.lt_of_lt_of_le hlt hb.size, hc.below hb hlt⟩
theorem EvL.at {w : World} {a : Option Addr} {len : Nat} {h : Nat → E3} (hh : EvL w a len h) {k : Nat} (hk : k < len) : ∃ b off, a = some ⟨b, off, none⟩ ∧ b < w.heap.size ∧ w.cell? ⟨b, off + k * 3, none⟩ = some (.int .i64 (h k).k) ∧ w.cell? ⟨b, off + k * 3 + 1, none⟩ = some (.int .i64 (h k).q) ∧ w.cell? ⟨b, off + k * 3 + 2, none⟩ = some (.int .i64 (h k).v) := by
 rcases hh with rfl | ⟨b, off, e, hlt, hc⟩
 ·omega
 ·exact ⟨b, off, e, hlt, hc k hk⟩
theorem EvL.take {w : World} {a : Option Addr} {len : Nat} {h : Nat → E3} (hh : EvL w a len h) {k : Nat} (hk : k ≤ len) : EvL w a k h := by
 rcases hh with rfl | ⟨b, off, e, hlt, hc⟩
 ·exact .inl (by omega)
 ·exact .inr ⟨b, off, e, hlt, fun i hi => hc i (by omega)⟩
theorem EvL.one {w : World} {b off len : Nat} {h : Nat → E3} (hh : EvL w (some ⟨b, off, none⟩) len h) {k : Nat} (hk : k < len) : EvAt w b off len h ∧ b < w.heap.size := by
 rcases hh with rfl | ⟨b', off', e, hlt, hc⟩
 ·omega
 ·simp only [Option.some.injEq, Addr.mk.injEq] at e
  obtain ⟨rfl, rfl, -⟩ := e
  exact ⟨hc, hlt⟩
def cnt (eh : Nat → E3) (kd pr : Int) (n : Nat) : Nat := (plN eh kd pr n).length
theorem cnt_zero (eh : Nat → E3) (kd pr : Int) : cnt eh kd pr 0 = 0 := rfl
theorem cnt_hit {eh : Nat → E3} {kd pr : Int} {n : Nat} (h : hitB eh kd pr n = true) : cnt eh kd pr (n + 1) = cnt eh kd pr n + 1 := by
 unfold cnt
 rw [plN, if_pos h, List.length_append]
 rfl
theorem cnt_not {eh : Nat → E3} {kd pr : Int} {n : Nat} (h : hitB eh kd pr n = false) : cnt eh kd pr (n + 1) = cnt eh kd pr n := by
 unfold cnt
 rw [plN, if_neg (by rw [h]; decide)]
theorem cnt_le (eh : Nat → E3) (kd pr : Int) (n : Nat) : cnt eh kd pr n ≤ n := plN_le eh kd pr n
theorem cnt_mono (eh : Nat → E3) (kd pr : Int) {a b : Nat} (h : a ≤ b) : cnt eh kd pr a ≤ cnt eh kd pr b := by
 induction b with
 | zero =>
  have : a = 0 := by omega
  subst this
  exact Nat.le_refl _
 | succ b ih =>
  by_cases e : a = b + 1
  ·subst e
   exact Nat.le_refl _
  ·have := ih (by omega)
   rcases Bool.eq_false_or_eq_true (hitB eh kd pr b) with t | t
   ·rw [cnt_hit t]
    omega
   ·rw [cnt_not t]
    exact this
theorem hitB_iff {eh : Nat → E3} {kd pr : Int} {i : Nat} : hitB eh kd pr i = true ↔ (eh i).k = kd ∧ (eh i).q = pr := by
 simp [hitB]
structure Hs where
 n : Nat
 l : Nat → Nat
 e : Nat → Nat → E3
def Hs.Peers (x : Hs) : Prop := ∀ p, p < x.n → ∀ i, i < x.l p → 0 ≤ (x.e p i).q ∧ (x.e p i).q < (x.n : Int)
def Hs.Can (x : Hs) (d : Nat → Nat) (p : Nat) : Prop :=
 d p < x.l p ∧ ((x.e p (d p)).k = 3 → cnt (x.e p) 3 (x.e p (d p)).q (d p) < cnt (x.e (x.e p (d p)).q.toNat) 2 p (d (x.e p (d p)).q.toNat))
def up (d : Nat → Nat) (p : Nat) : Nat → Nat := fun i => if i = p then d i + 1 else d i
theorem up_same (d : Nat → Nat) (p : Nat) : up d p p = d p + 1 := by simp [up]
theorem up_other {d : Nat → Nat} {p i : Nat} (h : i ≠ p) : up d p i = d i := by simp [up, h]
inductive Hs.Put (x : Hs) : (Nat → Nat) → Prop
 | start : x.Put (fun _ => 0)
 | next {d : Nat → Nat} {p : Nat} : x.Put d → p < x.n → x.Can d p → x.Put (up d p)
def Hs.All (x : Hs) (d : Nat → Nat) : Prop := ∀ p, p < x.n → d p = x.l p
def Hs.Row (x : Hs) : Prop := ∃ d, x.Put d ∧ x.All d
theorem Hs.Put.le {x : Hs} {d : Nat → Nat} (h : x.Put d) : ∀ p, d p ≤ x.l p := by
 induction h with
 | start => exact fun _ => Nat.zero_le _
 | next _ _ hc ih =>
  rename_i d p _ _
  intro i
  by_cases e : i = p
  ·subst e
   rw [up_same]
   exact hc.1
  ·rw [up_other e]
   exact ih i
theorem Hs.Put.stuck {x : Hs} {d s : Nat → Nat} (h : x.Put d) (hp : x.Peers) (hs : ∀ p, p < x.n → ¬ x.Can s p) : ∀ p, p < x.n → d p ≤ s p := by
 induction h with
 | start => exact fun _ _ => Nat.zero_le _
 | next _ hpn hc ih =>
  rename_i d p _
  intro i hi
  by_cases e : i = p
  ·subst e
   rw [up_same]
   have h1 := ih i hi
   by_cases e : d i = s i
   ·exfalso
    refine hs i hi ⟨by rw [← e]; exact hc.1, fun hk => ?_⟩
    rw [← e] at hk ⊢
    have h2 := hc.2 hk
    have hq := hp i hi (d i) hc.1
    exact Nat.lt_of_lt_of_le h2 (cnt_mono _ _ _ (ih _ (by omega)))
   ·omega
  ·rw [up_other e]
   exact ih i hi
theorem Hs.row_iff {x : Hs} {s : Nat → Nat} (h : x.Put s) (hp : x.Peers) (hs : ∀ p, p < x.n → ¬ x.Can s p) : x.Row ↔ x.All s := by
 refine ⟨fun ⟨d, hd, ha⟩ p hpn => ?_, fun ha => ⟨s, h, ha⟩⟩
 have h1 := hd.stuck hp hs p hpn
 have h2 := h.le p
 have h3 := ha p hpn
 omega
def Hs.opn (x : Hs) (d : Nat → Nat) (a b : Nat) : Int := (cnt (x.e a) 2 b (d a) : Int) - (cnt (x.e b) 3 a (d b) : Int)
theorem Hs.opn_start (x : Hs) (a b : Nat) : x.opn (fun _ => 0) a b = 0 := by simp [Hs.opn, cnt_zero]
theorem Hs.can_iff {x : Hs} {d : Nat → Nat} {p : Nat} (hp : x.Peers) (hpn : p < x.n) : x.Can d p ↔ d p < x.l p ∧ ((x.e p (d p)).k = 3 → 0 < x.opn d (x.e p (d p)).q.toNat p) := by
 unfold Hs.Can Hs.opn
 refine and_congr_right fun hl => ?_
 have hq := hp p hpn _ hl
 rw [show (((x.e p (d p)).q.toNat : Nat) : Int) = (x.e p (d p)).q by omega]
 refine ⟨fun h hk => ?_, fun h hk => ?_⟩
 ·have := h hk
  omega
 ·have := h hk
  omega
theorem Hs.opn_up {x : Hs} {d : Nat → Nat} {p a b : Nat} : x.opn (up d p) a b = x.opn d a b + (if a = p ∧ (x.e p (d p)).k = 2 ∧ (x.e p (d p)).q = (b : Int) then 1 else 0) - (if b = p ∧ (x.e p (d p)).k = 3 ∧ (x.e p (d p)).q = (a : Int) then 1 else 0) := by
 have hA : (cnt (x.e a) 2 b (up d p a) : Int) = cnt (x.e a) 2 b (d a) + (if a = p ∧ (x.e p (d p)).k = 2 ∧ (x.e p (d p)).q = (b : Int) then 1 else 0) := by
  by_cases e : a = p
  ·subst e
   rw [up_same]
   rcases Bool.eq_false_or_eq_true (hitB (x.e a) 2 b (d a)) with t | t
   ·rw [cnt_hit t, if_pos ⟨rfl, hitB_iff.1 t⟩]
    omega
   ·rw [cnt_not t, if_neg (fun h => by rw [hitB_iff.2 h.2] at t; cases t)]
    omega
  ·rw [up_other e, if_neg (fun h => e h.1)]
   omega
 have hB : (cnt (x.e b) 3 a (up d p b) : Int) = cnt (x.e b) 3 a (d b) + (if b = p ∧ (x.e p (d p)).k = 3 ∧ (x.e p (d p)).q = (a : Int) then 1 else 0) := by
  by_cases e : b = p
  ·subst e
   rw [up_same]
   rcases Bool.eq_false_or_eq_true (hitB (x.e b) 3 a (d b)) with t | t
   ·rw [cnt_hit t, if_pos ⟨rfl, hitB_iff.1 t⟩]
    omega
   ·rw [cnt_not t, if_neg (fun h => by rw [hitB_iff.2 h.2] at t; cases t)]
    omega
  ·rw [up_other e, if_neg (fun h => e h.1)]
   omega
 unfold Hs.opn
 rw [hA, hB]
 omega
def ItL (w : World) (a : Option Addr) (len : Nat) (h : Nat → I2) : Prop := len = 0 ∨ ∃ b off, a = some ⟨b, off, none⟩ ∧ b < w.heap.size ∧ ItAt w b off len h
theorem ItL.below {w w' : World} {a : Option Addr} {len : Nat} {h : Nat → I2} (hh : ItL w a len h) (hb : Below w.heap.size w w') : ItL w' a len h := by
 rcases hh with e | ⟨b, off, e, hlt, hc⟩
 ·exact .inl e
 ·exact .inr ⟨b, off, e, Nat.lt_of_lt_of_le hlt hb.size, hc.below hb hlt⟩
theorem ItL.at {w : World} {a : Option Addr} {len : Nat} {h : Nat → I2} (hh : ItL w a len h) {k : Nat} (hk : k < len) : ∃ b off, a = some ⟨b, off, none⟩ ∧ b < w.heap.size ∧ w.cell? ⟨b, off + k * 2, none⟩ = some (.bool (h k).m) ∧ w.cell? ⟨b, off + k * 2 + 1, none⟩ = some (.int .i64 (h k).v) := by
 rcases hh with rfl | ⟨b, off, e, hlt, hc⟩
 ·omega
 ·exact ⟨b, off, e, hlt, hc k hk⟩
structure Tu (lo hi : Nat) (w w' : World) : Prop where
 os : w'.os = w.os
 tape : w'.tape = w.tape
 output : w'.output = w.output
 size : w.heap.size ≤ w'.heap.size
 block : ∀ k, k < w.heap.size → (k < lo ∨ hi ≤ k) → w'.heap[k]? = w.heap[k]?
theorem Tu.of_below {w w' : World} (h : Below w.heap.size w w') : Tu 0 0 w w' := ⟨h.os, h.tape, h.output, h.size, fun k hk _ => h.block k hk⟩
theorem OwnI.ofBlock {w w' : World} {B : Nat} {u : Value} {xs : List Int} (hu : OwnI w B u xs) (ha : ∀ k, u.ownBlock = some k → w'.heap[k]? = w.heap[k]?) : OwnI w' B u xs := by
 rcases hu.2 with ⟨rfl, h0⟩ | ⟨g, cap, cur, rfl, hb, hg, hr⟩
 ·exact ⟨hu.1, .inl ⟨rfl, h0⟩⟩
 ·refine ⟨hu.1, .inr ⟨g, cap, cur, rfl, hb, ?_, hr⟩⟩
  rw [ha g rfl]
  exact hg
theorem OwnI.slOf {w : World} {B n cap : Nat} {a0 : Option Addr} {xs : List Int} (h : OwnI w B (.slice a0 n cap) xs) : Sl w a0 xs := by
 obtain ⟨a1, c1, e, s⟩ := h.form
 simp only [Value.slice.injEq] at e
 obtain ⟨rfl, -, -⟩ := e
 exact s
structure Tl (w : World) (B C N : Nat) (p c : Int) (ra : Option Addr) (rn rc : Nat) (oa : Option Addr) (on oc : Nat) (rs os : List Int) : Prop where
 lo : B ≤ N
 hi : N < C
 sz : C ≤ w.heap.size
 box : BoxC w N (.int .i64 p) (.slice ra rn rc) (.slice oa on oc) (.int .i64 c)
 own : StOwn w B (stV p ra rn rc oa on oc c) p rs os c
 up : ∀ k, hasBlock (stV p ra rn rc oa on oc c) k → k < C
 ne : ¬ hasBlock (stV p ra rn rc oa on oc c) N
theorem Tl.tu {w w' : World} {B C N : Nat} {p c : Int} {ra : Option Addr} {rn rc : Nat} {oa : Option Addr} {on oc : Nat} {rs os : List Int} {lo hi : Nat} (h : Tl w B C N p c ra rn rc oa on oc rs os) (t : Tu lo hi w w') (hd : C ≤ lo ∨ hi ≤ B) : Tl w' B C N p c ra rn rc oa on oc rs os := by
 obtain ⟨h1, h2, h3, ⟨b0, b1, b2, b3⟩, h5, h6, h7⟩ := h
 have hb : ∀ k, B ≤ k → k < C → w'.heap[k]? = w.heap[k]? := fun k k1 k2 => t.block k (by omega) (by omega)
 have hN := hb N h1 h2
 refine ⟨h1, h2, Nat.le_trans h3 t.size, ⟨(World.cell?_of_block hN).trans b0, (World.cell?_of_block hN).trans b1, (World.cell?_of_block hN).trans b2, (World.cell?_of_block hN).trans b3⟩, ?_, h6, h7⟩
 obtain ⟨o1, o2, ha⟩ := h5.parts
 refine ⟨_, _, rfl, o1.ofBlock fun k hk => ?_, o2.ofBlock fun k hk => ?_, ha⟩
 ·exact hb k (o1.lt k hk).1 (h6 k ((hasBlock_iff _ _ _ _ _).2 (.inl hk)))
 ·exact hb k (o2.lt k hk).1 (h6 k ((hasBlock_iff _ _ _ _ _).2 (.inr hk)))
theorem Tl.below {w w' : World} {B C N : Nat} {p c : Int} {ra : Option Addr} {rn rc : Nat} {oa : Option Addr} {on oc : Nat} {rs os : List Int} (h : Tl w B C N p c ra rn rc oa on oc rs os) (hb : Below w.heap.size w w') : Tl w' B C N p c ra rn rc oa on oc rs os := h.tu (Tu.of_below hb) (.inr (Nat.zero_le _))
theorem Tl.sl {w : World} {B C N : Nat} {p c : Int} {ra : Option Addr} {rn rc : Nat} {oa : Option Addr} {on oc : Nat} {rs os : List Int} (h : Tl w B C N p c ra rn rc oa on oc rs os) : Sl w ra rs ∧ Sl w oa os := ⟨h.own.parts.1.slOf, h.own.parts.2.1.slOf⟩
theorem Tl.of_alloc {w : World} {B : Nat} {p c : Int} {ra oa : Option Addr} {rn rc on oc : Nat} {rs os : List Int} (h : StOwn w B (stV p ra rn rc oa on oc c) p rs os c) (hw : B ≤ w.heap.size) (t : TypeId) : Tl (w.alloc (.cells #[.int .i64 p, .slice ra rn rc, .slice oa on oc, .int .i64 c] t)) B (w.heap.size + 1) w.heap.size p c ra rn rc oa on oc rs os :=
 ⟨hw, Nat.lt_succ_self _, by simp, BoxC.new w _ _ _ _ _, h.below (below_alloc _ _), fun k hk => Nat.lt_succ_of_lt (h.lt hk).2, fun e => Nat.lt_irrefl _ (h.lt e).2⟩
def Told (w : World) (B N : Nat) (S : S4) : Prop := ∃ ra rc oa oc, BoxC w N (.int .i64 S.p) (.slice ra S.rs.length rc) (.slice oa S.os.length oc) (.int .i64 S.c) ∧ StOwn w B (stV S.p ra S.rs.length rc oa S.os.length oc S.c) S.p S.rs S.os S.c ∧ B ≤ N ∧ ¬ hasBlock (stV S.p ra S.rs.length rc oa S.os.length oc S.c) N
theorem Told.tl {w : World} {B N : Nat} {S : S4} (h : Told w B N S) : ∃ ra rc oa oc, Tl w B w.heap.size N S.p S.c ra S.rs.length rc oa S.os.length oc S.rs S.os := by
 obtain ⟨ra, rc, oa, oc, h1, h2, h3, h4⟩ := h
 exact ⟨ra, rc, oa, oc, h3, World.block_lt_of_cell? w _ h1.1, Nat.le_refl _, h1, h2, fun k hk => (h2.lt hk).2, h4⟩
theorem BoxC.set4 {w : World} {N : Nat} {z0 z1 z2 z3 : Value} (h : BoxC w N z0 z1 z2 z3) (a b c d : Value) : BoxC ((((w.setCell ⟨N, 0, none⟩ a).setCell ⟨N, 1, none⟩ b).setCell ⟨N, 2, none⟩ c).setCell ⟨N, 3, none⟩ d) N a b c d := by
 obtain ⟨h0, h1, h2, h3⟩ := h
 exact ⟨by go_cell, by go_cell, by go_cell, by go_cell⟩
theorem grown4 (w : World) (N : Nat) (a b c d : Value) : w.grownBy ((((w.setCell ⟨N, 0, none⟩ a).setCell ⟨N, 1, none⟩ b).setCell ⟨N, 2, none⟩ c).setCell ⟨N, 3, none⟩ d) (some N) := by
 repeat (refine grown_setCell ?_ (.inl rfl) _)
 exact World.grownBy.refl _ _
theorem Told.of_alloc {w : World} {B B' : Nat} {S : S4} {ra oa : Option Addr} {rc oc : Nat} (h : StOwn w B' (stV S.p ra S.rs.length rc oa S.os.length oc S.c) S.p S.rs S.os S.c) (hB : B ≤ B') (hw : B ≤ w.heap.size) (t : TypeId) : Told (w.alloc (.cells #[.int .i64 S.p, .slice ra S.rs.length rc, .slice oa S.os.length oc, .int .i64 S.c] t)) B w.heap.size S := by
 refine ⟨ra, rc, oa, oc, BoxC.new w _ _ _ _ _, ?_, hw, fun e => Nat.lt_irrefl _ (h.lt e).2⟩
 obtain ⟨vr, vo, e, o1, o2, ha⟩ := h
 exact ⟨vr, vo, e, (o1.below (below_alloc _ _)).mono hB, (o2.below (below_alloc _ _)).mono hB, ha⟩
theorem Told.of_put {w : World} {B B' N : Nat} {S : S4} {ra oa : Option Addr} {rc oc : Nat} {z0 z1 z2 z3 : Value} (h : StOwn w B' (stV S.p ra S.rs.length rc oa S.os.length oc S.c) S.p S.rs S.os S.c) (hB : B ≤ B') (hN : N < B') (hw : B ≤ N) (hZ : BoxC w N z0 z1 z2 z3) : Told ((((w.setCell ⟨N, 0, none⟩ (.int .i64 S.p)).setCell ⟨N, 1, none⟩ (.slice ra S.rs.length rc)).setCell ⟨N, 2, none⟩ (.slice oa S.os.length oc)).setCell ⟨N, 3, none⟩ (.int .i64 S.c)) B N S :=
 ⟨ra, rc, oa, oc, hZ.set4 _ _ _ _, h.put4 hN hB, hw, fun e => Nat.not_le_of_lt hN (h.lt e).1⟩
def Dx (w wr : World) (p code : Int) (ra : Option Addr) (rn rc : Nat) (oa : Option Addr) (on oc : Nat) (ek eq ev : Int) : Prop :=
 Below w.heap.size w wr ∧ BoxC wr w.heap.size (.int .i64 p) (.slice ra rn rc) (.slice oa on oc) (.int .i64 code) ∧ EvC3 wr (w.heap.size + 1) ek eq ev
def LstE (w : World) (B : Nat) (v : Value) (n : Nat) : Prop := ∃ xs, w.ownsRow B 71 3 v n xs ∧ xs.all isI = true ∧ v ≠ .slice none 0 0
theorem specStateNew_any (w : World) :
  Calls Tryz.prog 237 #[] w fun e w' => ∃ v, e = .returned v ∧ StOwn w' w.heap.size v 0 [0, 0, 0, 0] [] 0 ∧ Below w.heap.size w w' := by
 have hmk : ∀ w : World, (Instr.makeSlice 37 (.int .i64 4) (.int .i64 4)).run Tryz.prog w = .ok (.slice (some ⟨w.heap.size, 0, none⟩) 4 4) (w.alloc (.cells (madeCells #[.int .i64 0] 4) 3)) := fun w => run_make_int 4 (by omega) w
 have HM : Hid (∀ w : World, OwnI (w.alloc (.cells (madeCells #[.int .i64 0] 4) 3)) w.heap.size (.slice (some ⟨w.heap.size, 0, none⟩) 4 4) [0, 0, 0, 0]) := fun w => made_own w 4 (by omega)
 go_enter Tryz.func237, Tryz.ntmps237
 go_wp2
 have hB : w.heap.size ≤ w.heap.size + 1 := by omega
 have hM := HM.out (w.alloc (oQ1 0 (some ⟨w.heap.size + 1, 0, none⟩) 4 4 none 0 0 0))
 rw [World.size_alloc] at hM
 refine bodyPost_ret (v := stV 0 (some ⟨w.heap.size + 1, 0, none⟩) 4 4 none 0 0 0) (by simp [results, Tryz.results237, go_sem]) rfl ⟨_, rfl, ⟨_, _, rfl, hM.mono hB, World.ownsRow_nil _ _ _ _, fun k _ => by simp [Value.ownBlock]⟩, by go_grown⟩
theorem Tl.widen {w : World} {B C C' N : Nat} {p c : Int} {ra : Option Addr} {rn rc : Nat} {oa : Option Addr} {on oc : Nat} {rs os : List Int} (h : Tl w B C N p c ra rn rc oa on oc rs os) (h1 : C ≤ C') (h2 : C' ≤ w.heap.size) : Tl w B C' N p c ra rn rc oa on oc rs os :=
 ⟨h.lo, Nat.lt_of_lt_of_le h.hi h1, h2, h.box, h.own, fun k hk => Nat.lt_of_lt_of_le (h.up k hk) h1, h.ne⟩
structure Dr (w wr : World) (C W0 c len cap : Nat) (a0 : Option Addr) (Bs : Nat) (out : Value) (k : Nat) (p code : Int) (ra : Option Addr) (rc : Nat) (oa : Option Addr) (oc : Nat) (rs os : List Int) : Prop where
 ls : LstE wr w.heap.size out k
 cu : Cur wr W0 c a0 len cap
 gr : w.grownBy wr (some c)
 tl : Tl wr w.heap.size C Bs p code ra rs.length rc oa os.length oc rs os
 fz : ∀ j, wr.frozen? ⟨Bs, j, none⟩ = false
 oC : ∀ j, out.ownBlock = some j → j < C
 nB : out.ownBlock ≠ some Bs
 ap : ∀ j, hasBlock (stV p ra rs.length rc oa os.length oc code) j → out.ownBlock ≠ some j
 lr : rs.length ≤ 1048576
 lo : os.length ≤ 1048576
def EvB (w : World) (N : Nat) (k q v : Int) : Prop := EvC3 w N k q v ∧ ∀ j, w.frozen? ⟨N, j, none⟩ = false
theorem specValues_l (ea : Option Addr) (len cap : Nat) (eh : Nat → E3) (kd pr : Int) (w : World) (hlen : len ≤ 1048576) (hc : EvL w ea len eh) :
  Calls Tryz.prog 115 #[.slice ea len cap, .int .i64 kd, .int .i64 pr] w fun e w' => ∃ v, e = .returned v ∧ OwnI w' w.heap.size v (valL eh kd pr len) ∧ Below w.heap.size w w' := by
 have hl' : (len : Int) ≤ 1048576 := by omega
 have HC : Hid (EvL w ea len eh) := hc
 clear hc
 go_enter Tryz.func115, Tryz.ntmps115
 go_wp2_with fail
 go_loopw [7, 8] (fun o i wr => ∃ k : Nat, k ≤ len ∧ i = .int .i64 k ∧ Hid (OwnI wr w.heap.size o (valL eh kd pr k)) ∧ Below w.heap.size w wr) (fun _ i _ => len - (intOf i).toNat)
 case atStart => exact ⟨0, Nat.zero_le _, rfl, own_empty w, (Below.refl _ _).alloc (Nat.le_refl _) _⟩
 case round =>
  obtain ⟨k, hk, rfl, HO, hbw⟩ := hrel
  have hs := hbw.size
  by_cases hlt : k < len
  ·have hlt' : (k : Int) < (len : Int) := by omega
   have hvl := valL_le eh kd pr k
   obtain ⟨b, off, rfl, -, c0, c1, c2⟩ := (HC.out.below hbw).at hlt
   rcases Bool.eq_false_or_eq_true ((eh k).k == kd) with t1 | t1
   ·rcases Bool.eq_false_or_eq_true ((eh k).q == pr) with t2 | t2
    ·have HH : Hid (valL eh kd pr (k + 1) = valL eh kd pr k ++ [(eh k).v]) := valL_hit (by
      unfold hitB
      rw [t1, t2]
      rfl)
     go_wp2_with (at_builtin; refine append_one wr rfl _ _ rfl w.heap.size u7 (valL eh kd pr k) rfl HO.out (eh k).v rfl (by omega) hs ?_; intro v' w4 o4 b4; have H4 : Hid (OwnI w4 w.heap.size v' (valL eh kd pr (k + 1))) := o4.to HH.out; clear o4)
     go_roundw
     case rel => exact ⟨k + 1, by omega, by go_num, H4.out, hbw.trans b4⟩
     case measure => simp [intOf]; omega
    ·have HH : Hid (valL eh kd pr (k + 1) = valL eh kd pr k) := valL_not (by
      unfold hitB
      rw [t1, t2]
      rfl)
     go_wp2
     go_roundw
     case rel => exact ⟨k + 1, by omega, by go_num, HO.out.to HH.out, hbw⟩
     case measure => simp [intOf]; omega
   ·have HH : Hid (valL eh kd pr (k + 1) = valL eh kd pr k) := valL_not (by
     unfold hitB
     rw [t1]
     rfl)
    go_wp2
    go_roundw
    case rel => exact ⟨k + 1, by omega, by go_num, HO.out.to HH.out, hbw⟩
    case measure => simp [intOf]; omega
  ·have hkl : k = len := by omega
   have H4 : Hid (OwnI wr w.heap.size u7 (valL eh kd pr len)) := by
    have := HO.out
    rw [hkl] at this
    exact this
   clear HO hkl
   go_wp2
   go_ret
   exact ⟨_, rfl, H4.out, hbw⟩
theorem placesOf_l (ea : Option Addr) (len cap : Nat) (eh : Nat → E3) (kd pr : Int) (w : World) (hlen : len ≤ 1048576) (hc : EvL w ea len eh) :
  Calls Tryz.prog 239 #[.slice ea len cap, .int .i64 kd, .int .i64 pr] w fun e w' => ∃ v, e = .returned v ∧ OwnI w' w.heap.size v (plI eh kd pr len) ∧ Below w.heap.size w w' := by
 have hl' : (len : Int) ≤ 1048576 := by omega
 have HC : Hid (EvL w ea len eh) := hc
 clear hc
 go_enter Tryz.func239, Tryz.ntmps239
 go_wp2_with fail
 go_loopw [7, 13] (fun o i wr => ∃ k : Nat, k ≤ len ∧ i = .int .i64 k ∧ Hid (OwnI wr w.heap.size o (plI eh kd pr k)) ∧ Below w.heap.size w wr) (fun _ i _ => len - (intOf i).toNat)
 case atStart => exact ⟨0, Nat.zero_le _, rfl, own_empty w, (Below.refl _ _).alloc (Nat.le_refl _) _⟩
 case round =>
  obtain ⟨k, hk, rfl, HO, hbw⟩ := hrel
  have hs := hbw.size
  by_cases hlt : k < len
  ·have hlt' : (k : Int) < (len : Int) := by omega
   have hvl := plI_le eh kd pr k
   obtain ⟨b, off, rfl, -, c0, c1, c2⟩ := (HC.out.below hbw).at hlt
   rcases Bool.eq_false_or_eq_true ((eh k).k == kd) with t1 | t1
   ·rcases Bool.eq_false_or_eq_true ((eh k).q == pr) with t2 | t2
    ·have HH : Hid (plI eh kd pr (k + 1) = plI eh kd pr k ++ [(k : Int)]) := plI_hit (by
      unfold hitB
      rw [t1, t2]
      rfl)
     go_wp2_with (at_builtin; refine append_oneN _ (N := wr.heap.size + 1) (by simp) rfl _ _ rfl w.heap.size u7 (plI eh kd pr k) rfl (HO.out.below (by go_grown)) k rfl (by omega) (by simp; omega) ?_; intro v' w4 o4 b4; have H4 : Hid (OwnI w4 w.heap.size v' (plI eh kd pr (k + 1))) := o4.to HH.out; clear o4)
     go_roundw
     case rel => exact ⟨k + 1, by omega, by go_num, H4.out, Below.trans (by go_grown) b4⟩
     case measure => simp [intOf]; omega
    ·have HH : Hid (plI eh kd pr (k + 1) = plI eh kd pr k) := plI_not (by
      unfold hitB
      rw [t1, t2]
      rfl)
     go_wp2
     go_roundw
     case rel => exact ⟨k + 1, by omega, by go_num, (HO.out.below (by go_grown)).to HH.out, by go_grown⟩
     case measure => simp [intOf]; omega
   ·have HH : Hid (plI eh kd pr (k + 1) = plI eh kd pr k) := plI_not (by
     unfold hitB
     rw [t1]
     rfl)
    go_wp2
    go_roundw
    case rel => exact ⟨k + 1, by omega, by go_num, (HO.out.below (by go_grown)).to HH.out, by go_grown⟩
    case measure => simp [intOf]; omega
  ·have hkl : k = len := by omega
   have H4 : Hid (OwnI wr w.heap.size u7 (plI eh kd pr len)) := by
    have := HO.out
    rw [hkl] at this
    exact this
   clear HO hkl
   go_wp2
   go_ret
   exact ⟨_, rfl, H4.out, hbw⟩
theorem specCount_l (ea : Option Addr) (len cap : Nat) (eh : Nat → E3) (kd pr : Int) (w : World) (hlen : len ≤ 1048576) (hc : EvL w ea len eh) :
  Calls Tryz.prog 140 #[.slice ea len cap, .int .i64 kd, .int .i64 pr] w fun e w' => e = .returned (.int .i64 ((plN eh kd pr len).length : Nat)) ∧ Below w.heap.size w w' := by
 have HC : Hid (EvL w ea len eh) := hc
 clear hc
 go_enter Tryz.func140, Tryz.ntmps140
 go_wp2_with fail
 refine (specValues_l ea len cap eh kd pr w hlen HC.out).mono ?_
 rintro e w1 ⟨v, rfl, o1, b1⟩
 obtain ⟨a0, cp, rfl, -⟩ := o1.form
 rw [valL_length]
 go_wp2
 go_ret
 exact ⟨rfl, b1⟩
theorem implValues_l (ea : Option Addr) (len cap : Nat) (eh : Nat → E3) (kd pr : Int) (w : World) (hlen : len ≤ 1048576) (hc : EvL w ea len eh) :
  Calls Tryz.prog 200 #[.slice ea len cap, .int .i64 kd, .int .i64 pr] w fun e w' => ∃ v, e = .returned v ∧ OwnI w' w.heap.size v (valL eh kd pr len) ∧ Below w.heap.size w w' := by
 have hl' : (len : Int) ≤ 1048576 := by omega
 have HC : Hid (EvL w ea len eh) := hc
 clear hc
 have hpl := plI_le eh kd pr len
 go_enter Tryz.func200, Tryz.ntmps200
 go_wp2_with fail
 refine (placesOf_l ea len cap eh kd pr _ hlen (HC.out.below (by go_grown))).mono ?_
 rintro e w1 ⟨v, rfl, o1, b1⟩
 have B1 : Hid (Below w.heap.size w w1) := below_up (by go_grown) b1 (by simp)
 obtain ⟨a0, cp, rfl, -⟩ := o1.form
 have HS : Hid (OwnI w1 (w.heap.size + 1) (.slice a0 (plI eh kd pr len).length cp) (plI eh kd pr len)) := by
  rw [World.size_alloc] at o1
  exact o1
 clear o1
 go_wp2_with fail
 have HO : Hid (OwnI w1 w.heap.size (.slice (some ⟨w.heap.size, 0, none⟩) 0 0) []) := (own_empty w).below b1
 clear b1
 go_loopw [7, 16] (fun o i wr => ∃ k : Nat, k ≤ (plI eh kd pr len).length ∧ i = .int .i64 k ∧ Hid (OwnI wr w.heap.size o (valT eh kd pr len k)) ∧ Below w.heap.size w wr ∧ Hid (Away w w1 wr o)) (fun _ i _ => (plI eh kd pr len).length - (intOf i).toNat)
 case atStart => exact ⟨0, Nat.zero_le _, rfl, HO.out, B1.out, ⟨fun j hj => by simp [Value.ownBlock] at hj; exact .inl hj.symm, fun _ _ _ => rfl, Nat.le_refl _⟩⟩
 case round =>
  clear HO B1
  obtain ⟨k, hk, rfl, HO, hbw, HA⟩ := hrel
  have hs := hbw.size
  by_cases hlt : k < (plI eh kd pr len).length
  ·have hlt' : (k : Int) < ((plI eh kd pr len).length : Int) := by omega
   obtain ⟨b0, o0, e0, hb0, hcell⟩ := (HA.out.sl (Nat.lt_succ_self _) HS.out).at hlt
   obtain ⟨q, hq, hql, hqe⟩ := plI_place eh kd pr len k hlt
   have hql' : (q : Int) < (len : Int) := by omega
   rw [hq] at hcell
   subst e0
   have hvl := valT_le eh kd pr len k
   have HH : Hid (valT eh kd pr len (k + 1) = valT eh kd pr len k ++ [(eh q).v]) := valT_next hqe
   obtain ⟨b, off, rfl, -, c0, c1, c2⟩ := (HC.out.below hbw).at hql
   clear hq hqe
   go_wp2_with (at_builtin; refine append_far wr rfl _ _ rfl w.heap.size u7 (valT eh kd pr len k) rfl HO.out (eh q).v rfl (by omega) hs ?_; intro v' w4 o4 g4 a4; have A4 : Hid (Away w w1 w4 v') := HA.out.step g4 a4; have b4 : Below w.heap.size wr w4 := ⟨g4.os, g4.tape, g4.output, g4.size, fun j hj => g4.block j (Nat.lt_of_lt_of_le hj hs) (fun e => Nat.not_le_of_lt hj (HO.out.lt j e.symm).1)⟩; have H4 : Hid (OwnI w4 w.heap.size v' (valT eh kd pr len (k + 1))) := o4.to HH.out; clear o4 g4 a4)
   go_roundw
   case rel => exact ⟨k + 1, by omega, by go_num, H4.out, hbw.trans b4, A4.out⟩
   case measure => simp [intOf]; omega
  ·have hkl : k = (plI eh kd pr len).length := by omega
   have H4 : Hid (OwnI wr w.heap.size u7 (valL eh kd pr len)) := by
    have := HO.out
    rw [hkl, valT_all] at this
    exact this
   clear HO hkl
   go_wp2
   go_ret
   exact ⟨_, rfl, H4.out, hbw⟩
theorem specNumbers_l (ea : Option Addr) (len cap : Nat) (h : Nat → I2) (w : World) (hlen : len ≤ 1048576) (hc : ItL w ea len h) :
  Calls Tryz.prog 194 #[.slice ea len cap] w fun e w' => ∃ v, e = .returned v ∧ OwnI w' w.heap.size v (numL h len) ∧ Below w.heap.size w w' := by
 have hl' : (len : Int) ≤ 1048576 := by omega
 have HC : Hid (ItL w ea len h) := hc
 clear hc
 go_enter Tryz.func194, Tryz.ntmps194
 go_wp2_with fail
 go_loopw [3, 4] (fun o i wr => ∃ k : Nat, k ≤ len ∧ i = .int .i64 k ∧ Hid (OwnI wr w.heap.size o (numL h k)) ∧ Below w.heap.size w wr) (fun _ i _ => len - (intOf i).toNat)
 case atStart => exact ⟨0, Nat.zero_le _, rfl, own_empty w, (Below.refl _ _).alloc (Nat.le_refl _) _⟩
 case round =>
  obtain ⟨k, hk, rfl, HO, hbw⟩ := hrel
  have hs := hbw.size
  by_cases hlt : k < len
  ·have hlt' : (k : Int) < (len : Int) := by omega
   have hvl := numL_le h k
   obtain ⟨b, off, rfl, -, c0, c1⟩ := (HC.out.below hbw).at hlt
   rcases Bool.eq_false_or_eq_true (h k).m with t1 | t1
   ·have HH : Hid (numL h (k + 1) = numL h k) := numL_not t1
    rw [t1] at c0
    go_wp2
    go_roundw
    case rel => exact ⟨k + 1, by omega, by go_num, HO.out.to HH.out, hbw⟩
    case measure => simp [intOf]; omega
   ·have HH : Hid (numL h (k + 1) = numL h k ++ [(h k).v]) := numL_hit t1
    rw [t1] at c0
    go_wp2_with (at_builtin; refine append_one wr rfl _ _ rfl w.heap.size u3 (numL h k) rfl HO.out (h k).v rfl (by omega) hs ?_; intro v' w4 o4 b4; have H4 : Hid (OwnI w4 w.heap.size v' (numL h (k + 1))) := o4.to HH.out; clear o4)
    go_roundw
    case rel => exact ⟨k + 1, by omega, by go_num, H4.out, hbw.trans b4⟩
    case measure => simp [intOf]; omega
  ·have hkl : k = len := by omega
   have H4 : Hid (OwnI wr w.heap.size u3 (numL h len)) := by
    have := HO.out
    rw [hkl] at this
    exact this
   clear HO hkl
   go_wp2
   go_ret
   exact ⟨_, rfl, H4.out, hbw⟩
theorem implNumbers_l (ea : Option Addr) (len cap : Nat) (h : Nat → I2) (w : World) (hlen : len ≤ 1048576) (hc : ItL w ea len h) :
  Calls Tryz.prog 128 #[.slice ea len cap] w fun e w' => ∃ v, e = .returned v ∧ OwnI w' w.heap.size v (numL h len) ∧ Below w.heap.size w w' := by
 have hl' : (len : Int) ≤ 1048576 := by omega
 have HC : Hid (ItL w ea len h) := hc
 clear hc
 go_enter Tryz.func128, Tryz.ntmps128
 go_wp2_with fail
 go_loopw [3, 9] (fun o i wr => ∃ k : Nat, k ≤ len ∧ i = .int .i64 k ∧ Hid (OwnI wr w.heap.size o (numL h k)) ∧ Below w.heap.size w wr) (fun _ i _ => len - (intOf i).toNat)
 case atStart => exact ⟨0, Nat.zero_le _, rfl, own_empty w, (Below.refl _ _).alloc (Nat.le_refl _) _⟩
 case round =>
  obtain ⟨k, hk, rfl, HO, hbw⟩ := hrel
  have hs := hbw.size
  by_cases hlt : k < len
  ·have hlt' : (k : Int) < (len : Int) := by omega
   have hvl := numL_le h k
   obtain ⟨b, off, rfl, -, c0, c1⟩ := (HC.out.below hbw).at hlt
   rcases Bool.eq_false_or_eq_true (h k).m with t1 | t1
   ·have HH : Hid (numL h (k + 1) = numL h k) := numL_not t1
    rw [t1] at c0
    go_wp2
    go_roundw
    case rel => exact ⟨k + 1, by omega, by go_num, (HO.out.below (by go_grown)).to HH.out, by go_grown⟩
    case measure => simp [intOf]; omega
   ·have HH : Hid (numL h (k + 1) = numL h k ++ [(h k).v]) := numL_hit t1
    rw [t1] at c0
    go_wp2_with (at_builtin; refine append_oneN _ (N := wr.heap.size + 1) (by simp) rfl _ _ rfl w.heap.size u3 (numL h k) rfl (HO.out.below (by go_grown)) (h k).v rfl (by omega) (by simp; omega) ?_; intro v' w4 o4 b4; have H4 : Hid (OwnI w4 w.heap.size v' (numL h (k + 1))) := o4.to HH.out; clear o4)
    go_roundw
    case rel => exact ⟨k + 1, by omega, by go_num, H4.out, Below.trans (by go_grown) b4⟩
    case measure => simp [intOf]; omega
  ·have hkl : k = len := by omega
   have H4 : Hid (OwnI wr w.heap.size u3 (numL h len)) := by
    have := HO.out
    rw [hkl] at this
    exact this
   clear HO hkl
   go_wp2
   go_ret
   exact ⟨_, rfl, H4.out, hbw⟩
def cI (h : I5) : List Value := [.int .i64 h.o, .int .i64 h.r, .int .i64 h.a, .int .i64 h.b, .int .i64 h.n]
def cT (h : I2) : List Value := [.bool h.m, .int .i64 h.v]
def cE (h : E3) : List Value := [.int .i64 h.k, .int .i64 h.q, .int .i64 h.v]
def fI (h : Nat → I5) (n : Nat) : List Value := flat (fun i => cI (h i)) n
def fT (h : Nat → I2) (n : Nat) : List Value := flat (fun i => cT (h i)) n
def fE (h : Nat → E3) (n : Nat) : List Value := flat (fun i => cE (h i)) n
theorem fI_len (h : Nat → I5) (n : Nat) : (fI h n).length = n * 5 := flat_len fun _ _ => rfl
theorem fE_len (h : Nat → E3) (n : Nat) : (fE h n).length = n * 3 := flat_len fun _ _ => rfl
theorem fI_one (h : Nat → I5) (n : Nat) : ∀ u ∈ fI h n, u.oneCell' = true := flat_one fun i _ u hu => by
 simp [cI] at hu
 rcases hu with rfl | rfl | rfl | rfl | rfl <;> rfl
theorem fE_one (h : Nat → E3) (n : Nat) : ∀ u ∈ fE h n, u.oneCell' = true := flat_one fun i _ u hu => by
 simp [cE] at hu
 rcases hu with rfl | rfl | rfl <;> rfl
theorem kndI : Kind 102 99 5 40 := by
 refine ⟨Tryz.underlying102, ?_, by omega, by omega⟩
 have hinfo : (Tryz.prog.info? 99).map (fun i => (i.zero, i.size, i.bytes)) = some (some (.agg #[.int .i64 0, .int .i64 0, .int .i64 0, .int .i64 0, .int .i64 0]), 5, 40) := by kernel_rfl
 cases hi : Tryz.prog.info? 99 with
 | none => rw [hi] at hinfo; cases hinfo
 | some i =>
  rw [hi] at hinfo
  simp only [Option.map_some, Option.some.injEq, Prod.mk.injEq] at hinfo
  exact ⟨i, _, rfl, hinfo.1, hinfo.2.1, hinfo.2.2, rfl⟩
theorem kndT : Kind 124 126 2 16 := by
 refine ⟨Tryz.underlying124, ?_, by omega, by omega⟩
 have hinfo : (Tryz.prog.info? 126).map (fun i => (i.zero, i.size, i.bytes)) = some (some (.agg #[.bool false, .int .i64 0]), 2, 16) := by kernel_rfl
 cases hi : Tryz.prog.info? 126 with
 | none => rw [hi] at hinfo; cases hinfo
 | some i =>
  rw [hi] at hinfo
  simp only [Option.map_some, Option.some.injEq, Prod.mk.injEq] at hinfo
  exact ⟨i, _, rfl, hinfo.1, hinfo.2.1, hinfo.2.2, rfl⟩
theorem kndE : Kind 35 71 3 24 := by
 refine ⟨Tryz.underlying35, ?_, by omega, by omega⟩
 have hinfo : (Tryz.prog.info? 71).map (fun i => (i.zero, i.size, i.bytes)) = some (some (.agg #[.int .i64 0, .int .i64 0, .int .i64 0]), 3, 24) := by kernel_rfl
 cases hi : Tryz.prog.info? 71 with
 | none => rw [hi] at hinfo; cases hinfo
 | some i =>
  rw [hi] at hinfo
  simp only [Option.map_some, Option.some.injEq, Prod.mk.injEq] at hinfo
  exact ⟨i, _, rfl, hinfo.1, hinfo.2.1, hinfo.2.2, rfl⟩
theorem kndS : Kind 25 39 4 64 := by
 refine ⟨Tryz.underlying25, ?_, by omega, by omega⟩
 have hinfo := infoSta
 cases hi : Tryz.prog.info? 39 with
 | none => rw [hi] at hinfo; cases hinfo
 | some i =>
  rw [hi] at hinfo
  simp only [Option.map_some, Option.some.injEq, Prod.mk.injEq] at hinfo
  exact ⟨i, _, rfl, hinfo.1, hinfo.2.1, hinfo.2.2, rfl⟩
theorem kndII : Kind 24 102 1 24 := by
 refine ⟨Tryz.underlying24, ?_, by omega, by omega⟩
 have hinfo : (Tryz.prog.info? 102).map (fun i => (i.zero, i.size, i.bytes)) = some (some (.slice none 0 0), 1, 24) := by kernel_rfl
 cases hi : Tryz.prog.info? 102 with
 | none => rw [hi] at hinfo; cases hinfo
 | some i =>
  rw [hi] at hinfo
  simp only [Option.map_some, Option.some.injEq, Prod.mk.injEq] at hinfo
  exact ⟨i, _, rfl, hinfo.1, hinfo.2.1, hinfo.2.2, rfl⟩
theorem kndTT : Kind 26 124 1 24 := by
 refine ⟨Tryz.underlying26, ?_, by omega, by omega⟩
 have hinfo : (Tryz.prog.info? 124).map (fun i => (i.zero, i.size, i.bytes)) = some (some (.slice none 0 0), 1, 24) := by kernel_rfl
 cases hi : Tryz.prog.info? 124 with
 | none => rw [hi] at hinfo; cases hinfo
 | some i =>
  rw [hi] at hinfo
  simp only [Option.map_some, Option.some.injEq, Prod.mk.injEq] at hinfo
  exact ⟨i, _, rfl, hinfo.1, hinfo.2.1, hinfo.2.2, rfl⟩
theorem kndEE : Kind 27 35 1 24 := by
 refine ⟨Tryz.underlying27, ?_, by omega, by omega⟩
 have hinfo : (Tryz.prog.info? 35).map (fun i => (i.zero, i.size, i.bytes)) = some (some (.slice none 0 0), 1, 24) := by kernel_rfl
 cases hi : Tryz.prog.info? 35 with
 | none => rw [hi] at hinfo; cases hinfo
 | some i =>
  rw [hi] at hinfo
  simp only [Option.map_some, Option.some.injEq, Prod.mk.injEq] at hinfo
  exact ⟨i, _, rfl, hinfo.1, hinfo.2.1, hinfo.2.2, rfl⟩
theorem srcOf {w : World} {b off sz n : Nat} {f : Nat → List Value} (hb : b < w.heap.size) (hsz : 0 < sz) (hl : ∀ i, i < n → (f i).length = sz) (hc : ∀ i, i < n → ∀ j, j < sz → w.cell? ⟨b, off + (i * sz + j), none⟩ = (f i)[j]?) : Src w (some ⟨b, off, none⟩) (flat f n) := by
 refine .inr ⟨b, off, rfl, hb, fun q u hq => ?_⟩
 have hlen := flat_len hl
 have hq' : q < n * sz := by
  rcases Nat.lt_or_ge q (n * sz) with h | h
  ·exact h
  ·rw [List.getElem?_eq_none (by omega)] at hq
   cases hq
 have hk : q / sz < n := Nat.div_lt_of_lt_mul (by rw [Nat.mul_comm]; exact hq')
 have hr : q % sz < sz := Nat.mod_lt _ hsz
 have e : q / sz * sz + q % sz = q := by rw [Nat.mul_comm]; exact Nat.div_add_mod q sz
 have h1 := hc (q / sz) hk (q % sz) hr
 have h2 := flat_at hl hk hr
 rw [e] at h1 h2
 rw [h1, ← h2, hq]
theorem srcI {w : World} {b off len : Nat} {g : Nat → I5} (hb : b < w.heap.size) (h : InsAt w b off len g) : Src w (some ⟨b, off, none⟩) (fI g len) := srcOf (sz := 5) hb (by omega) (fun _ _ => rfl) fun i hi j hj => by
 obtain ⟨h0, h1, h2, h3, h4⟩ := h i hi
 match j, hj with
 | 0, _ => exact h0
 | 1, _ => exact h1
 | 2, _ => exact h2
 | 3, _ => exact h3
 | 4, _ => exact h4
theorem srcE {w : World} {a : Option Addr} {len : Nat} {g : Nat → E3} (h : EvL w a len g) : Src w a (fE g len) := by
 rcases h with rfl | ⟨b, off, rfl, hb, h⟩
 ·exact .inl rfl
 ·refine srcOf (sz := 3) hb (by omega) (fun _ _ => rfl) fun i hi j hj => ?_
  obtain ⟨h0, h1, h2⟩ := h i hi
  match j, hj with
  | 0, _ => exact h0
  | 1, _ => exact h1
  | 2, _ => exact h2
theorem atI {w : World} {B : Nat} {u : Value} {n : Nat} {g : Nat → I5} (o : w.ownsRow B 99 5 u n (fI g n)) (hne : u ≠ .slice none 0 0) : ∃ b cap, u = .slice (some ⟨b, 0, none⟩) n cap ∧ b < w.heap.size ∧ InsAt w b 0 n g ∧ n ≤ cap := by
 rcases o.2 with ⟨e, _⟩ | ⟨b, cap, cur, rfl, hb, hg, hcap, _⟩
 ·exact absurd e hne
 ·refine ⟨b, cap, rfl, (o.lt b rfl).2, fun i hi => ?_, hcap⟩
  have hc : ∀ j, j < 5 → w.cell? ⟨b, 0 + (i * 5 + j), none⟩ = (cI (g i))[j]? := fun j hj => by
   rw [Nat.zero_add, o.cellAt _ (by omega)]
   exact flat_at (sz := 5) (fun _ _ => rfl) hi hj
  exact ⟨hc 0 (by omega), hc 1 (by omega), hc 2 (by omega), hc 3 (by omega), hc 4 (by omega)⟩
theorem atT {w : World} {B : Nat} {u : Value} {n : Nat} {g : Nat → I2} (o : w.ownsRow B 126 2 u n (fT g n)) (hne : u ≠ .slice none 0 0) : ∃ b cap, u = .slice (some ⟨b, 0, none⟩) n cap ∧ b < w.heap.size ∧ ItAt w b 0 n g ∧ n ≤ cap := by
 rcases o.2 with ⟨e, _⟩ | ⟨b, cap, cur, rfl, hb, hg, hcap, _⟩
 ·exact absurd e hne
 ·refine ⟨b, cap, rfl, (o.lt b rfl).2, fun i hi => ?_, hcap⟩
  have hc : ∀ j, j < 2 → w.cell? ⟨b, 0 + (i * 2 + j), none⟩ = (cT (g i))[j]? := fun j hj => by
   rw [Nat.zero_add, o.cellAt _ (by omega)]
   exact flat_at (sz := 2) (fun _ _ => rfl) hi hj
  exact ⟨hc 0 (by omega), hc 1 (by omega)⟩
theorem atE {w : World} {B : Nat} {u : Value} {n : Nat} {g : Nat → E3} (o : w.ownsRow B 71 3 u n (fE g n)) (hne : u ≠ .slice none 0 0) : ∃ b cap, u = .slice (some ⟨b, 0, none⟩) n cap ∧ b < w.heap.size ∧ EvAt w b 0 n g ∧ n ≤ cap := by
 rcases o.2 with ⟨e, _⟩ | ⟨b, cap, cur, rfl, hb, hg, hcap, _⟩
 ·exact absurd e hne
 ·refine ⟨b, cap, rfl, (o.lt b rfl).2, fun i hi => ?_, hcap⟩
  have hc : ∀ j, j < 3 → w.cell? ⟨b, 0 + (i * 3 + j), none⟩ = (cE (g i))[j]? := fun j hj => by
   rw [Nat.zero_add, o.cellAt _ (by omega)]
   exact flat_at (sz := 3) (fun _ _ => rfl) hi hj
  exact ⟨hc 0 (by omega), hc 1 (by omega), hc 2 (by omega)⟩
def Cl (B : Nat) (c : Nat → Nat) (i : Nat) : Nat → Prop := fun k => B ≤ k ∧ c k = i
abbrev LI (z : Bool) (w : World) (P : Nat → Prop) (v : Value) (n : Nat) (u : Nat → Value) (L : Nat → Nat) (H : Nat → Nat → I5) : Prop := LL z 99 5 102 w P v n u L fun i => fI (H i) (L i)
abbrev LT (z : Bool) (w : World) (P : Nat → Prop) (v : Value) (n : Nat) (u : Nat → Value) (L : Nat → Nat) (H : Nat → Nat → I2) : Prop := LL z 126 2 124 w P v n u L fun i => fT (H i) (L i)
abbrev LE (z : Bool) (w : World) (P : Nat → Prop) (v : Value) (n : Nat) (u : Nat → Value) (L : Nat → Nat) (H : Nat → Nat → E3) : Prop := LL z 71 3 35 w P v n u L fun i => fE (H i) (L i)
theorem ownsRow_slice {w : World} {B : Nat} {e : TypeId} {sz : Nat} {v : Value} {n : Nat} {xs : List Value} (h : w.ownsRow B e sz v n xs) : ∃ a c, v = .slice a n c := by
 rcases h.2 with ⟨rfl, rfl⟩ | ⟨g, cap, cur, rfl, _⟩
 ·exact ⟨none, 0, rfl⟩
 ·exact ⟨_, _, rfl⟩
theorem l4Ins_any (a0 : Option Addr) (n cap : Nat) (A : Nat → Option Addr) (L C : Nat → Nat) (H : Nat → Nat → I5) (w : World) (hn : n ≤ 1048576) (hL : ∀ i, i < n → L i ≤ 1048576) (hr : RowS w a0 n fun i => .slice (A i) (L i) (C i)) (hI : ∀ i, i < n → Src w (A i) (fI (H i) (L i))) :
  Calls Tryz.prog 120 #[.slice a0 n cap] w fun e w' => ∃ v u, e = .returned v ∧ LI true w' (fun k => w.heap.size ≤ k ∧ k < w'.heap.size) v n u L H ∧ Below w.heap.size w w' := by
 have hn' : (n : Int) ≤ 1048576 := by omega
 have HR : Hid (RowS w a0 n fun i => .slice (A i) (L i) (C i)) := hr
 have HI : Hid (∀ i, i < n → Src w (A i) (fI (H i) (L i))) := hI
 have HL : Hid (∀ i, i < n → L i ≤ 1048576) := hL
 clear hr hI hL
 go_enter Tryz.func120, Tryz.ntmps120
 go_wp2_with fail
 go_loopw [3, 4] (fun v i wr => ∃ k : Nat, k ≤ n ∧ i = .int .i64 k ∧ Hid ((∃ u, LI true wr (fun b => w.heap.size ≤ b ∧ b < wr.heap.size) v k u L H) ∧ Below w.heap.size w wr)) (fun _ i _ => n - (intOf i).toNat)
 case atStart => exact ⟨0, Nat.zero_le _, rfl, ⟨fun _ => .slice none 0 0, LL.new _ _ _ w _ (by simp) _ _ _⟩, below_allocL _ _⟩
 case round =>
  obtain ⟨k, hk, rfl, HZ⟩ := hrel
  by_cases hlt : k < n
  ·have hlt' : (k : Int) < (n : Int) := by omega
   obtain ⟨b, off, rfl, ck⟩ := (HR.out.below HZ.out.2).at hlt
   have hbl : b < wr.heap.size := World.block_lt_of_cell? wr _ ck
   have HS : Hid (Src wr (A k) (fI (H k) (L k))) := (HI.out k hlt).below HZ.out.2
   have HLk : Hid (L k ≤ 1048576) := HL.out k hlt
   have hk2 : Hid (k ≤ 2000000) := by show k ≤ 2000000; omega
   obtain ⟨⟨u, oz⟩, bz⟩ := HZ.out
   have OZ : Hid (LI true wr (fun b => w.heap.size ≤ b ∧ b < wr.heap.size) u3 k u L H) := oz
   have BZ : Hid (Below w.heap.size w wr) := bz
   clear oz bz HZ
   go_wp2_with (first
    | (at_builtin; refine step_append_srcN kndI wr rfl rfl _ _ rfl (A k) (L k) (C k) (fI (H k) (L k)) rfl rfl (fI_len _ _) HS.out (fI_one _ _) (Nat.le_trans HLk.out (by omega)) ?_; intro v4 w4 o4 b4 n4; obtain ⟨a4, c4, rfl⟩ := ownsRow_slice o4; have F4 : Hid (w4.ownsRow wr.heap.size 99 5 (.slice a4 (L k) c4) (L k) (fI (H k) (L k)) ∧ Below wr.heap.size wr w4 ∧ Value.slice a4 (L k) c4 ≠ .slice none 0 0) := ⟨o4, b4, n4⟩; clear o4 b4 n4)
    | (at_builtin; refine step_append_val kndII w4 rfl rfl _ _ rfl 0 u3 k _ rfl (OZ.out.below F4.out.2.1).row #[.slice a4 (L k) c4] rfl rfl (by intro u hu; simp at hu; subst hu; rfl) hk2.out (Nat.zero_le _) ?_; intro v5 w5 o5 g5 q5 n5; have F5 : Hid (LI true w5 (fun b => w.heap.size ≤ b ∧ b < w5.heap.size) v5 (k + 1) (fun j => if j = k then .slice a4 (L k) c4 else u j) L H ∧ Below w.heap.size w w5) := ⟨OZ.out.push F4.out.2.1 F4.out.1 (fun _ => F4.out.2.2) o5 g5 q5 (fun j hj _ => ⟨hj.1, Nat.lt_of_lt_of_le hj.2 (Nat.le_trans F4.out.2.1.size g5.size)⟩) (fun j hj hj' => ⟨Nat.le_trans BZ.out.size hj, hj'⟩), Below.grown (BZ.out.trans (F4.out.2.1.mono BZ.out.size)) g5 (Nat.le_trans BZ.out.size F4.out.2.1.size) (fun j hj => (OZ.out.rb j hj).1)⟩; clear o5 g5 q5 n5))
   go_roundw
   case rel => exact ⟨k + 1, by omega, by go_num, ⟨_, F5.out.1⟩, F5.out.2⟩
   case measure => simp [intOf]; omega
  ·have hkn : k = n := by omega
   subst hkn
   go_wp2
   go_ret
   obtain ⟨⟨u, oz⟩, bz⟩ := HZ.out
   exact ⟨_, u, rfl, oz, bz⟩
theorem stepR_append_src {ops : Array Oper} {o : Oper} {a : Act} {K : Act → World → Prop} {Q : Exit → Act → World → Prop} {E : Prop} {t e : TypeId} {size bytes : Nat} (KK : Kind t e size bytes) (w : World) (hg : o.guard = none) (s x : Operand)
  (ho : o.op = .call { callee := .builtin .append, args := #[s, x], argTypes := #[t, t] })
  (B : Nat) (v : Value) (n : Nat) (xs : List Value) (hs : a.eval s = v) (hown : w.ownsRow B e size v n xs) (a0 : Option Addr) (m c : Nat) (news : List Value) (hx : a.eval x = .slice a0 m c) (hl : news.length = m * size) (hsrc : Src w a0 news) (h1 : ∀ u ∈ news, u.oneCell' = true) (hnm : n + m ≤ 4000000) (hB : B ≤ w.heap.size)
  (h : ∀ v' w', w'.ownsRow B e size v' (n + m) (xs ++ news) → w.grownBy w' v.ownBlock → (v'.ownBlock = v.ownBlock ∨ v'.ownBlock = some w.heap.size) → (v ≠ .slice none 0 0 ∨ 0 < m → v' ≠ .slice none 0 0) → K (a.put o.dst v') w') :
  if Region.wanted o (yielded ops a.tmps) = true then Oper.wp Tryz.prog o a w K Q else E := by
 obtain ⟨v', w', r1, r2, r3, r4, r5⟩ := run_append_src KK w o.type B v n xs hown a0 m c news hl hsrc h1 hnm hB
 have hw : Region.wanted o (yielded ops a.tmps) = true := by simp [Region.wanted, hg]
 rw [if_pos hw]
 unfold Oper.wp execOp
 simp only [ho, resolve, invoke, builtin, Sem.run_bind, Sem.run_pure, Result.andThen_ok, List.map_toArray, List.map_cons, List.map_nil, hs, hx, r1]
 exact h v' w' r2 r3 r4 r5
theorem stepR_append_srcN {ops : Array Oper} {o : Oper} {a : Act} {K : Act → World → Prop} {Q : Exit → Act → World → Prop} {E : Prop} {t e : TypeId} {size bytes : Nat} (KK : Kind t e size bytes) (w : World) {N : Nat} (hN : N = w.heap.size) (hg : o.guard = none) (s x : Operand)
  (ho : o.op = .call { callee := .builtin .append, args := #[s, x], argTypes := #[t, t] })
  (a0 : Option Addr) (m c : Nat) (news : List Value) (hs : a.eval s = .slice (some ⟨N, 0, none⟩) 0 0) (hx : a.eval x = .slice a0 m c) (hl : news.length = m * size) (hsrc : Src w a0 news) (h1 : ∀ u ∈ news, u.oneCell' = true) (hnm : m ≤ 4000000)
  (h : ∀ v' w', w'.ownsRow w.heap.size e size v' m news → Below w.heap.size w w' → v' ≠ .slice none 0 0 → K (a.put o.dst v') w') :
  if Region.wanted o (yielded ops a.tmps) = true then Oper.wp Tryz.prog o a (w.alloc (.cells #[] e)) K Q else E := by
 subst hN
 have hb : Below w.heap.size w (w.alloc (.cells #[] e)) := below_allocL _ _
 refine stepR_append_src KK _ hg s x ho w.heap.size (.slice (some ⟨w.heap.size, 0, none⟩) 0 0) 0 [] hs (World.ownsRow_made (base := w.heap.size) (e := e) (size := size) w #[] 0 (Nat.le_refl _) (by unfold maxLen; omega) (by simp)) a0 m c news hx hl (hsrc.below hb) h1 (by omega) (by simp) ?_
 intro v' w' o g _ hne
 rw [Nat.zero_add, List.nil_append] at o
 exact h v' w' o (hb.grown g (by simp) (fun k hk => by cases hk; exact Nat.le_refl _)) (hne (.inl (by simp)))
theorem stepR_append_val {ops : Array Oper} {o : Oper} {a : Act} {K : Act → World → Prop} {Q : Exit → Act → World → Prop} {E : Prop} {t e : TypeId} {size bytes : Nat} (KK : Kind t e size bytes) (w : World) {N : Nat} (hN : N = w.heap.size) (hg : o.guard = none) (s x : Operand)
  (ho : o.op = .call { callee := .builtin .append, args := #[s, x], argTypes := #[t, t] })
  (B : Nat) (v : Value) (n : Nat) (xs : List Value) (hs : a.eval s = v) (hown : w.ownsRow B e size v n xs) (cs : Array Value) (hx : a.eval x = .slice (some ⟨N, 0, none⟩) 1 1) (hl : cs.size = size) (h1 : ∀ u ∈ cs.toList, u.oneCell' = true) (hn : n ≤ 2000000) (hB : B ≤ w.heap.size)
  (h : ∀ v' w', w'.ownsRow B e size v' (n + 1) (xs ++ cs.toList) → w.grownBy w' v.ownBlock → (∀ j, v'.ownBlock = some j → v.ownBlock = some j ∨ w.heap.size ≤ j) → v' ≠ .slice none 0 0 → K (a.put o.dst v') w') :
  if Region.wanted o (yielded ops a.tmps) = true then Oper.wp Tryz.prog o a (w.alloc (.cells cs e)) K Q else E := by
 subst hN
 have hb : Below w.heap.size w (w.alloc (.cells cs e)) := below_allocL _ _
 refine stepR_append_src KK _ hg s x ho B v n xs hs (hown.alloc _) (some ⟨w.heap.size, 0, none⟩) 1 1 cs.toList hx (by simp [hl]) (.inr ⟨w.heap.size, 0, rfl, by simp, fun j u hj => ?_⟩) h1 (by omega) (by simp; omega) ?_
 ·rw [Nat.zero_add, new_cell _ _ _ j rfl]
  simpa using hj
 ·intro v' w' o g hbk hne
  refine h v' w' o ⟨g.os, g.tape, g.output, Nat.le_trans hb.size g.size, fun j hj hne => (g.block j (Nat.lt_of_lt_of_le hj hb.size) hne).trans (hb.block j hj)⟩ (fun j hj => ?_) (hne (.inr (by omega)))
  rcases hbk with a | a
  ·exact .inl (a.symm.trans hj)
  ·rw [hj] at a
   simp only [Option.some.injEq] at a
   right
   rw [a]
   simp
theorem stepR_call {ops : Array Oper} {o : Oper} {a : Act} {w : World} {K : Act → World → Prop} {Q : Exit → Act → World → Prop} {E : Prop} (hg : o.guard = none) (f : FuncId) (args : Array Operand) (ts : Array TypeId)
  (ho : o.op = .call { callee := .value (.func f), args := args, argTypes := ts }) (vals : Array Value) (hv : args.map a.eval = vals) (hen : ∀ vs wx, (callFunc f vs).run Tryz.prog wx = .ok (.enter f vs) wx) {post : Ending → World → Prop} (hc : Calls Tryz.prog f vals w post)
  (h : ∀ e w', post e w' → ∃ v, e = .returned v ∧ K (a.put o.dst v) w') :
  if Region.wanted o (yielded ops a.tmps) = true then Oper.wp Tryz.prog o a w K Q else E := by
 have hw : Region.wanted o (yielded ops a.tmps) = true := by simp [Region.wanted, hg]
 rw [if_pos hw]
 have hr : (execOp a.eval o).run Tryz.prog w = .ok (.enter f vals) w := by
  unfold execOp
  simp [ho, resolve, invoke, hv, hen, Act.eval, Deferred.ofValue]
 unfold Oper.wp
 rw [hr, Oper.upon_enter]
 refine hc.mono fun e w' hp => ?_
 obtain ⟨v, rfl, hk⟩ := h e w' hp
 exact hk
theorem implNth_l (ea : Option Addr) (len cap : Nat) (eh : Nat → E3) (kd pr n : Int) (w : World) (hlen : len ≤ 1048576) (hc : EvL w ea len eh) :
  Calls Tryz.prog 217 #[.slice ea len cap, .int .i64 kd, .int .i64 pr, .int .i64 n] w fun e w' => e = .returned (.int .i64 (nthV eh kd pr len n)) ∧ Below w.heap.size w w' := by
 have HC : Hid (EvL w ea len eh) := hc
 clear hc
 generalize hV : nthV eh kd pr len n = V
 have HV : Hid (nthV eh kd pr len n = V) := hV
 clear hV
 have hpl := plI_le eh kd pr len
 go_enter Tryz.func217, Tryz.ntmps217
 go_wp2_with fail
 refine (placesOf_l ea len cap eh kd pr w hlen HC.out).mono ?_
 rintro e w1 ⟨v, rfl, o1, b1⟩
 obtain ⟨a0, cp, rfl, s1⟩ := o1.form
 have HS : Hid (Sl w1 a0 (plI eh kd pr len)) := s1
 clear o1 s1
 rcases Bool.eq_false_or_eq_true (belB n ((plI eh kd pr len).length : Nat)) with t | t
 ·have hn : 0 ≤ n ∧ n < ((plI eh kd pr len).length : Int) := by simpa [belB] using t
  obtain ⟨m, rfl⟩ : ∃ m : Nat, n = m := ⟨n.toNat, by omega⟩
  have hv := HV.out
  unfold nthV at hv
  rw [if_pos t, Int.toNat_natCast] at hv
  have hm : m < (plI eh kd pr len).length := by omega
  have hm' : (m : Int) < ((plI eh kd pr len).length : Int) := by omega
  obtain ⟨b0, o0, rfl, hlt, hcell⟩ := HS.out.at hm
  rw [hv] at hcell
  clear hn hv HS
  go_wp2_with fail
  refine (isBelow_any _ _ _).mono ?_
  rintro e w2 ⟨rfl, rfl⟩
  go_wp2
  go_ret
  exact ⟨rfl, b1⟩
 ·have hv := HV.out
  unfold nthV at hv
  rw [if_neg (by rw [t]; decide)] at hv
  subst hv
  go_wp2_with fail
  refine (isBelow_any _ _ _).mono ?_
  rintro e w2 ⟨rfl, rfl⟩
  go_wp2
  go_ret
  exact ⟨rfl, b1⟩
theorem specNth_l (ea : Option Addr) (len cap : Nat) (eh : Nat → E3) (kd pr n : Int) (w : World) (hlen : len ≤ 1048576) (hc : EvL w ea len eh) (n0 : -9223372036854775808 ≤ n) (n1 : n ≤ 9223372036854775807) :
  Calls Tryz.prog 216 #[.slice ea len cap, .int .i64 kd, .int .i64 pr, .int .i64 n] w fun e w' => e = .returned (.int .i64 (nthV eh kd pr len n)) ∧ Below w.heap.size w w' := by
 have hl' : (len : Int) ≤ 1048576 := by omega
 have HC : Hid (EvL w ea len eh) := hc
 have HN : Hid (-9223372036854775808 ≤ n ∧ n ≤ 9223372036854775807) := ⟨n0, n1⟩
 clear hc n0 n1
 go_enter Tryz.func216, Tryz.ntmps216
 go_wp2_with fail
 go_loopw [3, 9] (fun m i wr => ∃ (k : Nat) (z : Int), k ≤ len ∧ i = .int .i64 k ∧ m = .int .i64 z ∧ Hid (z = wrap64 (n - (plI eh kd pr k).length) ∧ belB n ((plI eh kd pr k).length : Nat) = false) ∧ Below w.heap.size w wr) (fun _ i _ => len - (intOf i).toNat)
 case atStart => exact ⟨0, n, Nat.zero_le _, rfl, rfl, ⟨by have := HN.out; unfold wrap64; simp [plI, plN]; omega, by simp [belB, plI, plN]⟩, Below.refl _ _⟩
 case round =>
  obtain ⟨k, z, hk, rfl, rfl, HZ, hbw⟩ := hrel
  by_cases hlt : k < len
  ·have hlt' : (k : Int) < (len : Int) := by omega
   obtain ⟨b, off, rfl, -, c0, c1, c2⟩ := (HC.out.below hbw).at hlt
   rcases Bool.eq_false_or_eq_true ((eh k).k == kd) with t1 | t1
   ·rcases Bool.eq_false_or_eq_true ((eh k).q == pr) with t2 | t2
    ·have hh : hitB eh kd pr k = true := by
      unfold hitB
      rw [t1, t2]
      rfl
     have hle := plI_le eh kd pr k
     rcases Bool.eq_false_or_eq_true (z == 0) with t3 | t3
     ·have HV : Hid (nthV eh kd pr len n = k) := nthV_hit hlt hh (by
       obtain ⟨h1, -⟩ := HZ.out
       have := HN.out
       have h3 : z = 0 := by simpa using t3
       rw [h3] at h1
       unfold wrap64 at h1
       omega)
      clear hh hle HZ HN
      go_wp2
      go_ret
      exact ⟨ret_int HV.out.symm, hbw⟩
     ·have HS : Hid (wrap64 (z - 1) = wrap64 (n - (plI eh kd pr (k + 1)).length) ∧ belB n ((plI eh kd pr (k + 1)).length : Nat) = false) := by
       obtain ⟨h1, h2⟩ := HZ.out
       have h4 := HN.out
       have h3 : z ≠ 0 := by simpa using t3
       rw [plI_hit hh, List.length_append]
       refine ⟨?_, ?_⟩
       ·rw [h1]
        unfold wrap64
        simp
        omega
       ·simp [belB] at h2 ⊢
        intro h0
        have h5 := h2 h0
        rw [h1] at h3
        unfold wrap64 at h3
        omega
      clear hh hle HZ
      go_wp2
      go_roundw
      case rel => exact ⟨k + 1, wrap64 (z - 1), by omega, by go_num, by simp, HS.out, hbw⟩
      case measure => simp [intOf]; omega
    ·have HH : Hid (plI eh kd pr (k + 1) = plI eh kd pr k) := plI_not (by
      unfold hitB
      rw [t1, t2]
      rfl)
     go_wp2
     go_roundw
     case rel => exact ⟨k + 1, z, by omega, by go_num, rfl, by rw [HH.out]; exact HZ.out, hbw⟩
     case measure => simp [intOf]; omega
   ·have HH : Hid (plI eh kd pr (k + 1) = plI eh kd pr k) := plI_not (by
     unfold hitB
     rw [t1]
     rfl)
    go_wp2
    go_roundw
    case rel => exact ⟨k + 1, z, by omega, by go_num, rfl, by rw [HH.out]; exact HZ.out, hbw⟩
    case measure => simp [intOf]; omega
  ·have hkl : k = len := by omega
   have HV : Hid (nthV eh kd pr len n = -1) := by
    have := HZ.out.2
    rw [hkl] at this
    show nthV eh kd pr len n = -1
    unfold nthV
    rw [if_neg (by rw [this]; decide)]
   clear HZ hkl
   go_wp2
   go_ret
   exact ⟨ret_int HV.out.symm, hbw⟩
end Go.Proofs.YtcplnkhdclcgfaaGreatDoor
