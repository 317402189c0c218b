/- What the law of Do holds on to between its calls: what lies where, and what may be written. -/
import Derived.Test.YtbleeedbiipfnaaGreatDoorWc0
import Derived.Test.YtbleeedbiipfnaaGreatDoorWc12
import Derived.Test.YtbleeedbiipfnaaGreatDoorWc10
import Derived.Test.YtbleeedbiipfnaaGreatDoorWc11
import Derived.Test.YtbleeedbiipfnaaGreatDoorWc13
import Derived.Test.YtbleeedbiipfnaaGreatDoorWc14
import Derived.Test.YtbleeedbiipfnaaGreatDoorWc9
import Derived.Maps.Range
import Derived.Deep.Onto
import Derived.Deep.Slices
namespace Go.Proofs.YtbleeedbiipfnaaGreatDoor
set_option maxRecDepth 100000
set_option maxHeartbeats 4000000
open Go.ChangeShapes Go.WideShapes Go.ChangeAt Go.RowKit Go.Deep
structure E3 where
 k : Int
 q : Int
 v : Int
def EvAt (w : World) (b off len : Nat) (h : Nat → E3) : Prop := ∀ i, i < len →
 w.cell? ⟨b, off + i * 3, none⟩ = some (.int .i64 (h i).k) ∧ w.cell? ⟨b, off + i * 3 + 1, none⟩ = some (.int .i64 (h i).q) ∧ w.cell? ⟨b, off + i * 3 + 2, none⟩ = some (.int .i64 (h i).v)
theorem EvAt.below {w w' : World} {B b off len : Nat} {h : Nat → E3} (hh : EvAt w b off len h) (hb : Below B w w') (hB : b < B) : EvAt w' b off len h := by
 intro i hi
 obtain ⟨h0, h1, h2⟩ := hh i hi
 exact ⟨(hb.cell hB).trans h0, (hb.cell hB).trans h1, (hb.cell hB).trans h2⟩
def FilledE (f : Nat → Value) (h : Nat → E3) (k : Nat) : Prop := ∀ i, i < k →
 f (i * 3) = .int .i64 (h i).k ∧ f (i * 3 + 1) = .int .i64 (h i).q ∧ f (i * 3 + 2) = .int .i64 (h i).v
def CopiesE (w : World) (a0 : Option Addr) (len cap : Nat) (h : Nat → E3) : Prop := ∀ wx, Below w.heap.size w wx →
 Calls Tryz.prog 156 #[.slice a0 len cap] wx fun e w' => e = .returned (.slice (some ⟨wx.heap.size, 0, none⟩) len len) ∧ EvAt w' wx.heap.size 0 len h ∧ wx.heap.size < w'.heap.size ∧ Below wx.heap.size wx w' ∧ ∀ j, w'.frozen? ⟨wx.heap.size, j, none⟩ = false
def RoomE (w : World) (b len : Nat) : Prop := (∀ i, i < len * 3 → ∃ u, w.cell? ⟨b, i, none⟩ = some u) ∧ ∀ j, w.frozen? ⟨b, j, none⟩ = false
def sumL (ls : Nat → Nat) : Nat → Nat
 | 0 => 0
 | n + 1 => sumL ls n + ls n
def RowS (w : World) (a0 : Option Addr) (n : Nat) (f : Nat → Value) : Prop :=
 n = 0 ∨ ∃ b off, a0 = some ⟨b, off, none⟩ ∧ b < w.heap.size ∧ ∀ i, i < n → w.cell? ⟨b, off + i, none⟩ = some (f i)
theorem RowS.below {w w' : World} {a0 : Option Addr} {n : Nat} {f : Nat → Value} (h : RowS w a0 n f) (hb : Below w.heap.size w w') : RowS w' a0 n f := by
 rcases h with h | ⟨b, off, e, hlt, hc⟩
 ·exact .inl h
 ·exact .inr ⟨b, off, e, Nat.lt_of_lt_of_le hlt hb.size, fun i hi => (hb.cell (p := ⟨b, off + i, none⟩) hlt).trans (hc i hi)⟩
theorem RowS.at {w : World} {a0 : Option Addr} {n : Nat} {f : Nat → Value} (h : RowS w a0 n f) {k : Nat} (hk : k < n) : ∃ b off, a0 = some ⟨b, off, none⟩ ∧ w.cell? ⟨b, off + k, none⟩ = some (f k) := by
 rcases h with rfl | ⟨b, off, e, -, hc⟩
 ·omega
 ·exact ⟨b, off, e, hc k hk⟩
structure Touch (P : Nat → Prop) (w w' : World) : Prop where
 os : w'.os = w.os
 tape : w'.tape = w.tape
 output : w'.output = w.output
 size : w.heap.size ≤ w'.heap.size
 block : ∀ k, k < w.heap.size → ¬ P k → w'.heap[k]? = w.heap[k]?
theorem Touch.refl (P : Nat → Prop) (w : World) : Touch P w w := ⟨rfl, rfl, rfl, Nat.le_refl _, fun _ _ _ => rfl⟩
theorem Touch.trans {P : Nat → Prop} {a b c : World} (h : Touch P a b) (k : Touch P b c) : Touch P a c :=
 ⟨k.os.trans h.os, k.tape.trans h.tape, k.output.trans h.output, Nat.le_trans h.size k.size, fun i hi hn => (k.block i (Nat.lt_of_lt_of_le hi h.size) hn).trans (h.block i hi hn)⟩
theorem Touch.of_below {P : Nat → Prop} {w w' : World} (h : Below w.heap.size w w') : Touch P w w' :=
 ⟨h.os, h.tape, h.output, h.size, fun k hk _ => h.block k hk⟩
theorem Touch.of_set {P : Nat → Prop} (w : World) {a : Addr} (ha : P a.block) (u : Value) : Touch P w (w.setCell a u) :=
 ⟨rfl, rfl, rfl, by simp [World.setCell], fun k _ hn => Below.heap_setCell _ _ _ _ fun e => hn (e ▸ ha)⟩
theorem Touch.below {P : Nat → Prop} {w w' : World} {B : Nat} (h : Touch P w w') (hB : B ≤ w.heap.size) (hp : ∀ k, P k → B ≤ k) : Below B w w' :=
 ⟨h.os, h.tape, h.output, h.size, fun k hk => h.block k (by omega) fun e => by have := hp k e; omega⟩
theorem Touch.cell {P : Nat → Prop} {w w' : World} (h : Touch P w w') {b : Nat} (hb : b < w.heap.size) (hp : ¬ P b) (j : Nat) : w'.cell? ⟨b, j, none⟩ = w.cell? ⟨b, j, none⟩ := World.cell?_of_block (h.block b hb hp)
def EvL (w : World) (a : Option Addr) (len : Nat) (h : Nat → E3) : Prop := len = 0 ∨ ∃ b off, a = some ⟨b, off, none⟩ ∧ b < w.heap.size ∧ EvAt w b off len h
theorem EvL.below {w w' : World} {a : Option Addr} {len : Nat} {h : Nat → E3} (hh : EvL w a len h) (hb : Below w.heap.size w w') : EvL w' a len h := by
 rcases hh with e | ⟨b, off, e, hlt, hc⟩
 ·exact .inl e
 ·exact .inr ⟨b, off, e, Nat.lt_of_lt_of_le hlt hb.size, hc.below hb hlt⟩
theorem EvL.at {w : World} {a : Option Addr} {len : Nat} {h : Nat → E3} (hh : EvL w a len h) {k : Nat} (hk : k < len) : ∃ b off, a = some ⟨b, off, none⟩ ∧ b < w.heap.size ∧ w.cell? ⟨b, off + k * 3, none⟩ = some (.int .i64 (h k).k) ∧ w.cell? ⟨b, off + k * 3 + 1, none⟩ = some (.int .i64 (h k).q) ∧ w.cell? ⟨b, off + k * 3 + 2, none⟩ = some (.int .i64 (h k).v) := by
 rcases hh with rfl | ⟨b, off, e, hlt, hc⟩
 ·omega
 ·exact ⟨b, off, e, hlt, hc k hk⟩
theorem EvL.take {w : World} {a : Option Addr} {len : Nat} {h : Nat → E3} (hh : EvL w a len h) {k : Nat} (hk : k ≤ len) : EvL w a k h := by
 rcases hh with rfl | ⟨b, off, e, hlt, hc⟩
 ·exact .inl (by omega)
 ·exact .inr ⟨b, off, e, hlt, fun i hi => hc i (by omega)⟩
theorem EvL.one {w : World} {b off len : Nat} {h : Nat → E3} (hh : EvL w (some ⟨b, off, none⟩) len h) {k : Nat} (hk : k < len) : EvAt w b off len h ∧ b < w.heap.size := by
 rcases hh with rfl | ⟨b', off', e, hlt, hc⟩
 ·omega
 ·simp only [Option.some.injEq, Addr.mk.injEq] at e
  obtain ⟨rfl, rfl, -⟩ := e
  exact ⟨hc, hlt⟩
theorem Marked.of_row {v : Value} {w w' : World} {row : Option Nat} (g : w.grownBy w' row) (h : ∀ k, row = some k → hasBlock v k) : Marked v w w' :=
 ⟨g.os, g.tape, g.output, g.size, fun k hk hn => g.block k hk (fun e => hn (h k e.symm))⟩
theorem grown_dr {w w' : World} {row : Option Nat} (h : w.grownBy w' row) : w.grownBy w'.drew row := ⟨h.os, h.tape, h.output, h.size, h.block⟩
theorem Marked.trans {v : Value} {w w1 w2 : World} (h : Marked v w w1) (k : Marked v w1 w2) : Marked v w w2 :=
 ⟨k.os.trans h.os, k.tape.trans h.tape, k.output.trans h.output, Nat.le_trans h.size k.size, fun j hj hn => (k.block j (Nat.lt_of_lt_of_le hj h.size) hn).trans (h.block j hj hn)⟩
theorem Marked.of_below {v : Value} {w w' : World} (h : Below w.heap.size w w') : Marked v w w' := ⟨h.os, h.tape, h.output, h.size, fun k hk _ => h.block k hk⟩
theorem StOwn.parts {w : World} {B : Nat} {p code : Int} {ra oa : Option Addr} {rn rc on oc : Nat} {rs os : List Int} (h : StOwn w B (stV p ra rn rc oa on oc code) p rs os code) : OwnI w B (.slice ra rn rc) rs ∧ OwnI w B (.slice oa on oc) os ∧ ∀ k, (Value.slice ra rn rc).ownBlock = some k → (Value.slice oa on oc).ownBlock ≠ some k := by
 obtain ⟨vr, vo, e, o1, o2, ha⟩ := h
 simp only [stV, Value.agg.injEq, Array.mk.injEq, List.cons.injEq, and_true, true_and] at e
 obtain ⟨rfl, rfl⟩ := e
 exact ⟨o1, o2, ha⟩
theorem l2Local_own (b off len cap k : Nat) (g : Nat → I5) (ra oa : Option Addr) (rc oc : Nat) (rs os : List Int) (B : Nat) (v : Int) (w : World) (hl : (len : Int) ≤ 30) (hb : b < w.heap.size) (hI : InsAt w b off len g) (h4 : rs.length = 4) (hO : StOwn w B (stV k ra rs.length rc oa os.length oc 0) k rs os 0) (hk : k < len) (hp : progOkB g len 4 = true) (hnum : allN rs = true) (h678 : (g k).o ≠ 6 ∧ (g k).o ≠ 7 ∧ (g k).o ≠ 8) :
  Calls Tryz.prog 193 #[.slice (some ⟨b, off, none⟩) len cap, stV k ra rs.length rc oa os.length oc 0] w fun e w' => ∃ u, (∃ q c, u = stV q ra rs.length rc oa os.length oc c) ∧ e = .returned u ∧ StOwn w' B u (doneS len (g k) k rs os 0 v).p (doneS len (g k) k rs os 0 v).rs (doneS len (g k) k rs os 0 v).os (doneS len (g k) k rs os 0 v).c ∧ Marked (stV k ra rs.length rc oa os.length oc 0) w w' := by
 obtain ⟨o1, o2, ha⟩ := hO.parts
 obtain ⟨G, rfl, _, _, _⟩ := own_some o1 (by omega)
 obtain ⟨⟨q1, q11⟩, ⟨r0, r3⟩, ⟨a0, a3⟩, ⟨b0, b3⟩⟩ := ins_range (right_ins hp hk)
 obtain ⟨jr, hjr⟩ := Int.eq_ofNat_of_zero_le r0
 obtain ⟨ja, hja⟩ := Int.eq_ofNat_of_zero_le a0
 obtain ⟨jb, hjb⟩ := Int.eq_ofNat_of_zero_le b0
 have hn4 : ∀ j, j < 4 → numB (zi rs j) = true := fun j hj => (List.all_eq_true.1 hnum) _ (zi_mem (by omega))
 rw [h4] at o1 ha ⊢
 have key : ∀ s : S4, s = doneS len (g k) k rs os 0 0 → s.os = os → (Calls Tryz.prog 193 #[.slice (some ⟨b, off, none⟩) len cap, stV k (some ⟨G, 0, none⟩) 4 rc oa os.length oc 0] w fun e w' => e = .returned (stV s.p (some ⟨G, 0, none⟩) 4 rc oa os.length oc s.c) ∧ OwnI w' B (.slice (some ⟨G, 0, none⟩) 4 rc) s.rs ∧ w.grownBy w' (some G)) → doneS len (g k) k rs os 0 v = doneS len (g k) k rs os 0 0 → (Calls Tryz.prog 193 #[.slice (some ⟨b, off, none⟩) len cap, stV k (some ⟨G, 0, none⟩) 4 rc oa os.length oc 0] w fun e w' => ∃ u, (∃ q c, u = stV q (some ⟨G, 0, none⟩) 4 rc oa os.length oc c) ∧ e = .returned u ∧ StOwn w' B u (doneS len (g k) k rs os 0 v).p (doneS len (g k) k rs os 0 v).rs (doneS len (g k) k rs os 0 v).os (doneS len (g k) k rs os 0 v).c ∧ Marked (stV k (some ⟨G, 0, none⟩) 4 rc oa os.length oc 0) w w') := by
  intro s hs hos h he
  rw [he, ← hs]
  refine h.mono fun e w' ⟨h1, h2, h3⟩ => ⟨_, ⟨_, _, rfl⟩, h1, ⟨_, _, rfl, h2, ?_, ha⟩, Marked.of_row h3 fun j hj => (hasBlock_iff _ _ _ _ _).2 (.inl hj)⟩
  rw [hos]
  exact o2.kept h3 (by
   cases hv : (Value.slice oa os.length oc).ownBlock with
   | none => exact .inl rfl
   | some j => exact .inr (fun e => ha G rfl (by rw [hv, e])))
 have hsame : doneS len (g k) k rs os 0 v = doneS len (g k) k rs os 0 0 := by
  unfold doneS
  rw [if_neg h678.1, if_neg h678.2.1, if_neg h678.2.2, if_neg h678.1, if_neg h678.2.1, if_neg h678.2.2]
 have hos : (doneS len (g k) k rs os 0 0).os = os := by
  unfold doneS
  rw [if_neg h678.1, if_neg h678.2.1, if_neg h678.2.2]
  split
  ·rfl
  ·split
   ·split <;> rfl
   ·split
    ·rfl
    ·split <;> rfl
 refine key _ rfl hos ?_ hsame
 rcases opCases (g k).o with ho | ho | ho | ho | ho | ho | ho | ho | ho | ho | ho | ho
 ·omega
 ·exact l2Local_1 b off len cap k g G rc oa os.length oc 0 rs B w hl hb hI o1 h4 hk jr ja jb hjr hja hjb (by omega) (by omega) (by omega) ho hn4 os
 ·exact l2Local_2 b off len cap k g G rc oa os.length oc 0 rs B w hl hb hI o1 h4 hk jr ja jb hjr hja hjb (by omega) (by omega) (by omega) ho hn4 os
 ·exact l2Local_3 b off len cap k g G rc oa os.length oc 0 rs B w hl hb hI o1 h4 hk jr ja jb hjr hja hjb (by omega) (by omega) (by omega) ho hn4 os
 ·exact l2Local_4 b off len cap k g G rc oa os.length oc 0 rs B w hl hb hI o1 h4 hk jr ja jb hjr hja hjb (by omega) (by omega) (by omega) ho hn4 os
 ·exact l2Local_5 b off len cap k g G rc oa os.length oc 0 rs B w hl hb hI o1 h4 hk jr ja jb hjr hja hjb (by omega) (by omega) (by omega) ho hn4 os
 ·exact absurd ho h678.1
 ·exact absurd ho h678.2.1
 ·exact absurd ho h678.2.2
 ·exact l2Local_9 b off len cap k g G rc oa os.length oc 0 rs B w hl hb hI o1 h4 hk jr ja jb hjr hja hjb (by omega) (by omega) (by omega) ho hn4 os
 ·exact l2Local_10 b off len cap k g G rc oa os.length oc 0 rs B w hl hb hI o1 h4 hk jr ja jb hjr hja hjb (by omega) (by omega) (by omega) ho hn4 os
 ·exact l2Local_11 b off len cap k g G rc oa os.length oc 0 rs B w hl hb hI o1 h4 hk jr ja jb hjr hja hjb (by omega) (by omega) (by omega) ho hn4 os
theorem l2Do_local (b off len cap k : Nat) (g : Nat → I5) (ra oa : Option Addr) (rc oc : Nat) (rs os : List Int) (w : World) (hl : (len : Int) ≤ 30) (hb : b < w.heap.size) (hI : InsAt w b off len g) (h4 : rs.length = 4) (ho : os.length ≤ 60) (h1 : Sl w ra rs) (h2 : Sl w oa os) (hk : k < len) (hp : progOkB g len 4 = true) (np : Int) (HN : Hid (evK (g k).o = 1 ∧ evP (g k).o (g k).n = np ∧ evW (g k).o (g k).a rs = 0)) (HL : Hid (allN rs = true ∧ (g k).o ≠ 6 ∧ (g k).o ≠ 7 ∧ (g k).o ≠ 8)) :
  Calls Tryz.prog 141 #[.slice (some ⟨b, off, none⟩) len cap, stV k ra rs.length rc oa os.length oc 0, evV 1 np 0] w fun e w' => ∃ v, e = .returned (.tuple #[v, .bool true]) ∧ StOwn w' w.heap.size v (doneS len (g k) k rs os 0 0).p (doneS len (g k) k rs os 0 0).rs (doneS len (g k) k rs os 0 0).os (doneS len (g k) k rs os 0 0).c ∧ Below w.heap.size w w' := by
 have HI : Hid (InsAt w b off len g) := hI
 have H1 : Hid (Sl w ra rs) := h1
 have H2 : Hid (Sl w oa os) := h2
 have H4 : Hid (rs.length = 4) := h4
 have HP : Hid (progOkB g len 4 = true) := hp
 have hk' : (k : Int) < (len : Int) := by omega
 clear hI h1 h2 h4 hp
 go_enter Tryz.func141, Tryz.ntmps141
 go_wp2_with fail
 refine (l2Next_any _ _ _ _ k g _ _ _ _ _ _ rs _ (by unfold maxLen; omega) (by simp; omega) (HI.out.below (by go_grown) hb) (H1.out.below (by go_grown)) H4.out hk HP.out).mono ?_
 rintro e w1 ⟨he1, b1⟩
 rw [HN.out.1, HN.out.2.1, HN.out.2.2] at he1
 subst he1
 have B1 : Hid (Below w.heap.size w (w1.alloc (oQ1 1 np 0))) := (below_up (by go_grown) b1 (by simp; omega)).alloc (by have := b1.size; simp at this; omega) _
 have X1 : Hid (DoBox (w1.alloc (oQ1 1 np 0)) w.heap.size (.int .i64 k) (.slice ra rs.length rc) (.slice oa os.length oc) (.int .i64 0) 1 np 0) := ((DoBox.new w _ _ _ _ _ _ _ _ _ _).below b1).below (below_alloc w1 _)
 clear b1
 obtain ⟨p0, p1, p2, p3, -, -, -, -, -, -, -, -⟩ := X1.out
 go_wp2_with fail
 clear p0 p1 p2 p3
 have V1 : Hid (EvC3 (w1.alloc (oQ1 1 np 0)) w1.heap.size 1 np 0) := EvC3.new w1 _ _ _ _
 generalize w1.alloc (oQ1 1 np 0) = W1 at *
 refine (l2Copy_any _ _ _ _ _ _ rs os _ (by have := H4.out; omega) (by omega) (H1.out.below B1.out) (H2.out.below B1.out)).mono ?_
 rintro e w2 ⟨v2, rfl, o2, b2⟩
 obtain ⟨ra2, rc2, oa2, oc2, rfl, -, -⟩ := o2.read
 have bA := below_alloc w2 (oQ2 k ra2 rs.length rc2 oa2 os.length oc2 0)
 have q2 : Below W1.heap.size W1 (w2.alloc (oQ2 k ra2 rs.length rc2 oa2 os.length oc2 0)) := b2.trans (bA.mono b2.size)
 have X2 : Hid (DoBox (w2.alloc (oQ2 k ra2 rs.length rc2 oa2 os.length oc2 0)) w.heap.size (.int .i64 k) (.slice ra rs.length rc) (.slice oa os.length oc) (.int .i64 0) 1 np 0) := X1.out.below q2
 have V2 : Hid (EvC3 (w2.alloc (oQ2 k ra2 rs.length rc2 oa2 os.length oc2 0)) w1.heap.size 1 np 0) := V1.out.below q2
 have Y2 : Hid (BoxC (w2.alloc (oQ2 k ra2 rs.length rc2 oa2 os.length oc2 0)) w2.heap.size (.int .i64 k) (.slice ra2 rs.length rc2) (.slice oa2 os.length oc2) (.int .i64 0)) := BoxC.new w2 _ _ _ _ _
 have F2 : Hid (∀ j, (w2.alloc (oQ2 k ra2 rs.length rc2 oa2 os.length oc2 0)).frozen? ⟨w2.heap.size, j, none⟩ = false) := fun j => by simp
 have O2 : Hid (StOwn (w2.alloc (oQ2 k ra2 rs.length rc2 oa2 os.length oc2 0)) W1.heap.size (stV k ra2 rs.length rc2 oa2 os.length oc2 0) k rs os 0) := o2.below bA
 have L2 : Hid (∀ j, hasBlock (stV k ra2 rs.length rc2 oa2 os.length oc2 0) j → W1.heap.size ≤ j ∧ j < w2.heap.size) := fun j hj => o2.lt hj
 have B2 : Hid (Below w.heap.size w (w2.alloc (oQ2 k ra2 rs.length rc2 oa2 os.length oc2 0))) := B1.out.trans (q2.mono B1.out.size)
 have zw : w.heap.size + 1 + 1 < W1.heap.size := X1.out.lt
 have zv : w1.heap.size < W1.heap.size := World.block_lt_of_cell? W1 _ V1.out.1
 have z2 : W1.heap.size ≤ w2.heap.size := b2.size
 clear b2 o2 bA q2 X1 V1 B1
 obtain ⟨p0, p1, p2, p3, e0, e1, e2, r0, r1, r2, r3, rf⟩ := X2.out
 obtain ⟨u0, u1, u2⟩ := V2.out
 obtain ⟨t0, t1, t2, t3⟩ := Y2.out
 have tf := F2.out
 go_wp2_with fail
 clear p0 p1 p2 p3 e0 e1 e2 r0 r1 r2 r3 rf u0 u1 u2 t0 t1 t2 t3 tf
 generalize w2.alloc (oQ2 k ra2 rs.length rc2 oa2 os.length oc2 0) = W2 at *
 refine (l2Local_own b off len cap k g ra2 oa2 rc2 oc2 rs os W1.heap.size 0 W2 hl (by have := B2.out.size; omega) (HI.out.below B2.out hb) H4.out O2.out hk HP.out HL.out.1 HL.out.2).mono ?_
 rintro e w3 ⟨u, ⟨q3, c3, hu⟩, rfl, o3, m3⟩
 rw [hu]
 rw [hu] at o3
 have X3 : Hid (DoBox w3 w.heap.size (.int .i64 k) (.slice ra rs.length rc) (.slice oa os.length oc) (.int .i64 0) 1 np 0) := X2.out.marked m3 fun j hj => by have := L2.out j hj; omega
 have O3 : Hid (StOwn w3 W1.heap.size (stV q3 ra2 rs.length rc2 oa2 os.length oc2 c3) (doneS len (g k) k rs os 0 0).p (doneS len (g k) k rs os 0 0).rs (doneS len (g k) k rs os 0 0).os (doneS len (g k) k rs os 0 0).c) := o3
 have B3 : Hid (Below w.heap.size w w3) := B2.out.trans (m3.below B2.out.size fun j hj => by have := L2.out j hj; omega)
 clear o3 m3 X2 V2 Y2 F2 O2 B2 hu u
 obtain ⟨-, -, -, -, -, -, -, r0, r1, r2, r3, rf⟩ := X3.out
 go_wp2
 refine bodyPost_ret (v := .tuple #[stV q3 ra2 rs.length rc2 oa2 os.length oc2 c3, .bool true]) (by simp [results, Tryz.results141, go_sem, r0, r1, r2, r3]) rfl ⟨_, rfl, ?_, ?_⟩
 ·exact StOwn.put4 (B' := W1.heap.size) O3.out zw (by omega)
 ·have := B3.out
  go_grown
def isI : Value → Bool
 | .int .i64 _ => true
 | _ => false
theorem isI_int {v : Value} (h : isI v = true) : ∃ x : Int, v = .int .i64 x := by
 unfold isI at h
 split at h
 ·exact ⟨_, rfl⟩
 ·cases h
def Lst (w : World) (B : Nat) (v : Value) (n : Nat) : Prop := ∃ xs, w.ownsRow B 136 5 v n xs ∧ xs.all isI = true
theorem Lst.kept {w w' : World} {B n : Nat} {v : Value} {row : Option Nat} (h : Lst w B v n) (hg : w.grownBy w' row) (hr : ∀ k, row = some k → k < B) : Lst w' B v n := by
 obtain ⟨xs, ho, hx⟩ := h
 refine ⟨xs, ho.kept hg ?_, hx⟩
 cases hv : v.ownBlock with
 | none => exact .inl rfl
 | some k =>
  right
  intro e
  have h1 := (ho.lt k hv).1
  have h2 := hr k e.symm
  omega
theorem Lst.mono {w : World} {B B' n : Nat} {v : Value} (h : Lst w B v n) (hb : B' ≤ B) : Lst w B' v n := by
 obtain ⟨xs, ho, hx⟩ := h
 exact ⟨xs, ho.mono hb, hx⟩
theorem Lst.form {w : World} {B n : Nat} {v : Value} (h : Lst w B v n) (hn : 0 < n) : ∃ g cap, v = .slice (some ⟨g, 0, none⟩) n cap ∧ B ≤ g ∧ g < w.heap.size := by
 obtain ⟨xs, ho, hx⟩ := h
 rcases ho.2 with ⟨_, h0⟩ | ⟨g, cap, cur, rfl, hb, _⟩
 ·omega
 ·exact ⟨g, cap, rfl, hb, (ho.lt g rfl).2⟩
theorem Lst.at {w : World} {B n g cap : Nat} (h : Lst w B (.slice (some ⟨g, 0, none⟩) n cap) n) : ∃ G, InsAt w g 0 n G := by
 obtain ⟨xs, ho, hx⟩ := h
 have hall := List.all_eq_true.1 hx
 have key : ∀ j, j < n * 5 → ∃ x : Int, w.cell? ⟨g, j, none⟩ = some (.int .i64 x) := by
  intro j hj
  have hl : j < xs.length := by rw [ho.1]; exact hj
  obtain ⟨x, hxx⟩ := isI_int (hall xs[j] (List.getElem_mem hl))
  exact ⟨x, by rw [ho.cellAt j hj, List.getElem?_eq_getElem hl, hxx]⟩
 have inh : Inhabited Int := ⟨0⟩
 obtain ⟨f, hf⟩ := Go.Deep.choose_lt (α := Int) key
 refine ⟨fun i => ⟨f (i * 5), f (i * 5 + 1), f (i * 5 + 2), f (i * 5 + 3), f (i * 5 + 4)⟩, fun i hi => ?_⟩
 simp only [Nat.zero_add]
 exact ⟨hf _ (by omega), hf _ (by omega), hf _ (by omega), hf _ (by omega), hf _ (by omega)⟩
theorem Lst.lit {w : World} {B n : Nat} (cs : Array Value) (hB : B ≤ w.heap.size) (hn : n ≤ 1000) (hs : cs.size = n * 5) (hc : cs.toList.all isI = true) : Lst (w.alloc (.cells cs 136)) B (.slice (some ⟨w.heap.size, 0, none⟩) n n) n :=
 ⟨cs.toList, World.ownsRow_lit w cs n hB (by unfold maxLen; omega) hs, hc⟩
theorem all_set {xs : List Value} {u : Value} (h : xs.all isI = true) (hu : isI u = true) (j : Nat) : (xs.set j u).all isI = true := by
 rw [List.all_eq_true] at h ⊢
 intro v hv
 rcases List.mem_or_eq_of_mem_set hv with h1 | h1
 ·exact h v h1
 ·rw [h1]; exact hu
theorem Lst.set {w : World} {B n g cap : Nat} (h : Lst w B (.slice (some ⟨g, 0, none⟩) n cap) n) (j : Nat) (x : Int) : Lst (w.setCell ⟨g, j, none⟩ (.int .i64 x)) B (.slice (some ⟨g, 0, none⟩) n cap) n := by
 obtain ⟨xs, ho, hx⟩ := h
 exact ⟨_, (ho.stored j _).1, all_set hx rfl j⟩
theorem infoI : (Tryz.prog.info? 136).map (fun i => (i.zero, i.size, i.bytes)) = some (some (insV 0 0 0 0 0), 5, 40) := by kernel_rfl
theorem cell_five_new (w : World) (a b c d e : Value) (t : TypeId) : ∀ j u, [a, b, c, d, e][j]? = some u → (w.alloc (.cells #[a, b, c, d, e] t)).cell? ((⟨w.heap.size, 0, none⟩ : Addr).add j) = some u := by
 intro j u hj
 match j, hj with
 | 0, hj => simp at hj; subst hj; simp [Addr.add]
 | 1, hj => simp at hj; subst hj; simp [Addr.add]
 | 2, hj => simp at hj; subst hj; simp [Addr.add]
 | 3, hj => simp at hj; subst hj; simp [Addr.add]
 | 4, hj => simp at hj; subst hj; simp [Addr.add]
 | j + 5, hj => simp at hj
theorem append_ins {ops : Array Oper} {rest : List Oper} {op : Oper} {act : Act} {Q : Exit → Act → World → Prop} (w : World) (hgd : op.guard = none) (s x : Operand)
  (ho : op.op = .call { callee := .builtin .append, args := #[s, x], argTypes := #[87, 87] })
  (B : Nat) (v : Value) (n : Nat) (hs : act.eval s = v) (hl : Lst w B v n) (o r a b k : Int) (hx : act.eval x = .slice (some ⟨w.heap.size, 0, none⟩) 1 1) (hn : n ≤ 1000) (hB : B ≤ w.heap.size)
  (h : ∀ v' w', Lst w' B v' (n + 1) → (w.alloc (oQ3 o r a b k)).grownBy w' v.ownBlock → wpList Tryz.prog ops Q rest (act.put op.dst v') w') :
  wpList Tryz.prog ops Q (op :: rest) act (w.alloc (oQ3 o r a b k)) := by
 obtain ⟨i0, hi, hz0, hz1, hz2⟩ := info_parts infoI
 obtain ⟨xs, how, hxs⟩ := hl
 refine wpList_append_own _ hgd s x 87 ho B 136 i0 (insV 0 0 0 0 0) 5 40 Tryz.underlying87 hi hz0 hz1 hz2 rfl (by decide) v n xs hs (how.alloc _) ⟨w.heap.size, 0, none⟩ 1 1
  [.int .i64 o, .int .i64 r, .int .i64 a, .int .i64 b, .int .i64 k] hx rfl (cell_five_new _ _ _ _ _ _ _) (fun u hu => ?_) (by unfold maxLen; omega) (by omega) (by simp; omega) ?_
 ·simp at hu
  rcases hu with rfl | rfl | rfl | rfl | rfl <;> rfl
 ·intro v' w' h1 h2 _
  refine h v' w' ⟨_, h1, ?_⟩ h2
  rw [List.all_append, hxs]
  rfl
structure Tu (lo hi : Nat) (w w' : World) : Prop where
 os : w'.os = w.os
 tape : w'.tape = w.tape
 output : w'.output = w.output
 size : w.heap.size ≤ w'.heap.size
 block : ∀ k, k < w.heap.size → (k < lo ∨ hi ≤ k) → w'.heap[k]? = w.heap[k]?
theorem Tu.of_below {w w' : World} (h : Below w.heap.size w w') : Tu 0 0 w w' := ⟨h.os, h.tape, h.output, h.size, fun k hk _ => h.block k hk⟩
theorem OwnI.ofBlock {w w' : World} {B : Nat} {u : Value} {xs : List Int} (hu : OwnI w B u xs) (ha : ∀ k, u.ownBlock = some k → w'.heap[k]? = w.heap[k]?) : OwnI w' B u xs := by
 rcases hu.2 with ⟨rfl, h0⟩ | ⟨g, cap, cur, rfl, hb, hg, hr⟩
 ·exact ⟨hu.1, .inl ⟨rfl, h0⟩⟩
 ·refine ⟨hu.1, .inr ⟨g, cap, cur, rfl, hb, ?_, hr⟩⟩
  rw [ha g rfl]
  exact hg
theorem OwnI.slOf {w : World} {B n cap : Nat} {a0 : Option Addr} {xs : List Int} (h : OwnI w B (.slice a0 n cap) xs) : Sl w a0 xs := by
 obtain ⟨a1, c1, e, s⟩ := h.form
 simp only [Value.slice.injEq] at e
 obtain ⟨rfl, -, -⟩ := e
 exact s
structure Tl (w : World) (B C N : Nat) (p c : Int) (ra : Option Addr) (rn rc : Nat) (oa : Option Addr) (on oc : Nat) (rs os : List Int) : Prop where
 lo : B ≤ N
 hi : N < C
 sz : C ≤ w.heap.size
 box : BoxC w N (.int .i64 p) (.slice ra rn rc) (.slice oa on oc) (.int .i64 c)
 own : StOwn w B (stV p ra rn rc oa on oc c) p rs os c
 up : ∀ k, hasBlock (stV p ra rn rc oa on oc c) k → k < C
 ne : ¬ hasBlock (stV p ra rn rc oa on oc c) N
theorem Tl.tu {w w' : World} {B C N : Nat} {p c : Int} {ra : Option Addr} {rn rc : Nat} {oa : Option Addr} {on oc : Nat} {rs os : List Int} {lo hi : Nat} (h : Tl w B C N p c ra rn rc oa on oc rs os) (t : Tu lo hi w w') (hd : C ≤ lo ∨ hi ≤ B) : Tl w' B C N p c ra rn rc oa on oc rs os := by
 obtain ⟨h1, h2, h3, ⟨b0, b1, b2, b3⟩, h5, h6, h7⟩ := h
 have hb : ∀ k, B ≤ k → k < C → w'.heap[k]? = w.heap[k]? := fun k k1 k2 => t.block k (by omega) (by omega)
 have hN := hb N h1 h2
 refine ⟨h1, h2, Nat.le_trans h3 t.size, ⟨(World.cell?_of_block hN).trans b0, (World.cell?_of_block hN).trans b1, (World.cell?_of_block hN).trans b2, (World.cell?_of_block hN).trans b3⟩, ?_, h6, h7⟩
 obtain ⟨o1, o2, ha⟩ := h5.parts
 refine ⟨_, _, rfl, o1.ofBlock fun k hk => ?_, o2.ofBlock fun k hk => ?_, ha⟩
 ·exact hb k (o1.lt k hk).1 (h6 k ((hasBlock_iff _ _ _ _ _).2 (.inl hk)))
 ·exact hb k (o2.lt k hk).1 (h6 k ((hasBlock_iff _ _ _ _ _).2 (.inr hk)))
theorem Tl.below {w w' : World} {B C N : Nat} {p c : Int} {ra : Option Addr} {rn rc : Nat} {oa : Option Addr} {on oc : Nat} {rs os : List Int} (h : Tl w B C N p c ra rn rc oa on oc rs os) (hb : Below w.heap.size w w') : Tl w' B C N p c ra rn rc oa on oc rs os := h.tu (Tu.of_below hb) (.inr (Nat.zero_le _))
theorem Tl.sl {w : World} {B C N : Nat} {p c : Int} {ra : Option Addr} {rn rc : Nat} {oa : Option Addr} {on oc : Nat} {rs os : List Int} (h : Tl w B C N p c ra rn rc oa on oc rs os) : Sl w ra rs ∧ Sl w oa os := ⟨h.own.parts.1.slOf, h.own.parts.2.1.slOf⟩
theorem Tl.of_alloc {w : World} {B : Nat} {p c : Int} {ra oa : Option Addr} {rn rc on oc : Nat} {rs os : List Int} (h : StOwn w B (stV p ra rn rc oa on oc c) p rs os c) (hw : B ≤ w.heap.size) (t : TypeId) : Tl (w.alloc (.cells #[.int .i64 p, .slice ra rn rc, .slice oa on oc, .int .i64 c] t)) B (w.heap.size + 1) w.heap.size p c ra rn rc oa on oc rs os :=
 ⟨hw, Nat.lt_succ_self _, by simp, BoxC.new w _ _ _ _ _, h.below (below_alloc _ _), fun k hk => Nat.lt_succ_of_lt (h.lt hk).2, fun e => Nat.lt_irrefl _ (h.lt e).2⟩
def Told (w : World) (B N : Nat) (S : S4) : Prop := ∃ ra rc oa oc, BoxC w N (.int .i64 S.p) (.slice ra S.rs.length rc) (.slice oa S.os.length oc) (.int .i64 S.c) ∧ StOwn w B (stV S.p ra S.rs.length rc oa S.os.length oc S.c) S.p S.rs S.os S.c ∧ B ≤ N ∧ ¬ hasBlock (stV S.p ra S.rs.length rc oa S.os.length oc S.c) N
theorem Told.tl {w : World} {B N : Nat} {S : S4} (h : Told w B N S) : ∃ ra rc oa oc, Tl w B w.heap.size N S.p S.c ra S.rs.length rc oa S.os.length oc S.rs S.os := by
 obtain ⟨ra, rc, oa, oc, h1, h2, h3, h4⟩ := h
 exact ⟨ra, rc, oa, oc, h3, World.block_lt_of_cell? w _ h1.1, Nat.le_refl _, h1, h2, fun k hk => (h2.lt hk).2, h4⟩
theorem BoxC.set4 {w : World} {N : Nat} {z0 z1 z2 z3 : Value} (h : BoxC w N z0 z1 z2 z3) (a b c d : Value) : BoxC ((((w.setCell ⟨N, 0, none⟩ a).setCell ⟨N, 1, none⟩ b).setCell ⟨N, 2, none⟩ c).setCell ⟨N, 3, none⟩ d) N a b c d := by
 obtain ⟨h0, h1, h2, h3⟩ := h
 exact ⟨by go_cell, by go_cell, by go_cell, by go_cell⟩
theorem grown4 (w : World) (N : Nat) (a b c d : Value) : w.grownBy ((((w.setCell ⟨N, 0, none⟩ a).setCell ⟨N, 1, none⟩ b).setCell ⟨N, 2, none⟩ c).setCell ⟨N, 3, none⟩ d) (some N) := by
 repeat (refine grown_setCell ?_ (.inl rfl) _)
 exact World.grownBy.refl _ _
theorem Told.of_alloc {w : World} {B B' : Nat} {S : S4} {ra oa : Option Addr} {rc oc : Nat} (h : StOwn w B' (stV S.p ra S.rs.length rc oa S.os.length oc S.c) S.p S.rs S.os S.c) (hB : B ≤ B') (hw : B ≤ w.heap.size) (t : TypeId) : Told (w.alloc (.cells #[.int .i64 S.p, .slice ra S.rs.length rc, .slice oa S.os.length oc, .int .i64 S.c] t)) B w.heap.size S := by
 refine ⟨ra, rc, oa, oc, BoxC.new w _ _ _ _ _, ?_, hw, fun e => Nat.lt_irrefl _ (h.lt e).2⟩
 obtain ⟨vr, vo, e, o1, o2, ha⟩ := h
 exact ⟨vr, vo, e, (o1.below (below_alloc _ _)).mono hB, (o2.below (below_alloc _ _)).mono hB, ha⟩
theorem Told.of_put {w : World} {B B' N : Nat} {S : S4} {ra oa : Option Addr} {rc oc : Nat} {z0 z1 z2 z3 : Value} (h : StOwn w B' (stV S.p ra S.rs.length rc oa S.os.length oc S.c) S.p S.rs S.os S.c) (hB : B ≤ B') (hN : N < B') (hw : B ≤ N) (hZ : BoxC w N z0 z1 z2 z3) : Told ((((w.setCell ⟨N, 0, none⟩ (.int .i64 S.p)).setCell ⟨N, 1, none⟩ (.slice ra S.rs.length rc)).setCell ⟨N, 2, none⟩ (.slice oa S.os.length oc)).setCell ⟨N, 3, none⟩ (.int .i64 S.c)) B N S :=
 ⟨ra, rc, oa, oc, hZ.set4 _ _ _ _, h.put4 hN hB, hw, fun e => Nat.not_le_of_lt hN (h.lt e).1⟩
def Dx (w wr : World) (p code : Int) (ra : Option Addr) (rn rc : Nat) (oa : Option Addr) (on oc : Nat) (ek eq ev : Int) : Prop :=
 Below w.heap.size w wr ∧ BoxC wr w.heap.size (.int .i64 p) (.slice ra rn rc) (.slice oa on oc) (.int .i64 code) ∧ EvC3 wr (w.heap.size + 1) ek eq ev
end Go.Proofs.YtbleeedbiipfnaaGreatDoor
