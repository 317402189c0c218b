/- The walks of the draw's cursor: l1Byte, l1Below, l1Once: a number in its range, and nothing else is written than the cursor. -/
import Derived.Test.YtcplnkhdclcgfaaGreatDoorSd0
import Derived.Test.YtcplnkhdclcgfaaGreatDoorRows
import Derived.WalkKit
import Derived.WalkSpells
import Derived.WalkLawsBesides
import Derived.Handy
import Derived.Maps.AppendAt
import Derived.Maps.Range
import Derived.Deep.Onto
import Derived.Deep.Slices
import Derived.Deep.RegionWith
import Derived.Deep.QuietTactic
import Derived.BigQuiet
namespace Go.Proofs.YtcplnkhdclcgfaaGreatDoor
set_option maxRecDepth 100000
set_option maxHeartbeats 1000000
open Go.RowKit
def inB (x lo hi : Int) : Bool := decide (lo <= x /\ x <= hi)
def belB (x n : Int) : Bool := decide (0 <= x /\ x < n)
theorem l1In_any (x lo hi : Int) (w : World) :
  Calls Tryz.prog 83 #[.int .i64 x, .int .i64 lo, .int .i64 hi] w fun e w' => e = .returned (.bool (inB x lo hi)) /\ w' = w := by
 by_cases h1 : lo <= x
 ·by_cases h2 : x <= hi
  ·go_enter Tryz.func83, Tryz.ntmps83
   go_wp2
   go_ret
   exact ⟨by simp [inB, h1, h2], rfl⟩
  ·go_enter Tryz.func83, Tryz.ntmps83
   go_wp2
   go_ret
   exact ⟨by simp [inB, h1, h2], rfl⟩
 ·go_enter Tryz.func83, Tryz.ntmps83
  go_wp2
  go_ret
  exact ⟨by simp [inB]; omega, rfl⟩
theorem isBelow_any (x n : Int) (w : World) :
  Calls Tryz.prog 86 #[.int .i64 x, .int .i64 n] w fun e w' => e = .returned (.bool (belB x n)) /\ w' = w := by
 by_cases h1 : 0 <= x
 ·by_cases h2 : x < n
  ·go_enter Tryz.func86, Tryz.ntmps86
   go_wp2
   go_ret
   exact ⟨by simp [belB, h1, h2], rfl⟩
  ·go_enter Tryz.func86, Tryz.ntmps86
   go_wp2
   go_ret
   exact ⟨by simp [belB, h1, h2], rfl⟩
 ·go_enter Tryz.func86, Tryz.ntmps86
  go_wp2
  go_ret
  exact ⟨by simp [belB]; omega, rfl⟩
theorem isReg_any (x : Int) (w : World) :
  Calls Tryz.prog 247 #[.int .i64 x] w fun e w' => e = .returned (.bool (belB x 4)) /\ w' = w := by
 go_enter Tryz.func247, Tryz.ntmps247
 go_wp2_with (go_at_call 86; refine (isBelow_any _ _ _).mono ?_; rintro e w' ⟨rfl, rfl⟩)
 go_ret
 exact ⟨rfl, rfl⟩
theorem isNum_any (x : Int) (w : World) :
  Calls Tryz.prog 223 #[.int .i64 x] w fun e w' => e = .returned (.bool (inB x (-1000000000) 1000000000)) /\ w' = w := by
 by_cases h1 : -1000000000 <= x
 ·by_cases h2 : x <= 1000000000
  ·go_enter Tryz.func223, Tryz.ntmps223
   go_wp2
   go_ret
   exact ⟨by simp [inB, h1, h2], rfl⟩
  ·go_enter Tryz.func223, Tryz.ntmps223
   go_wp2
   go_ret
   exact ⟨by simp [inB, h1, h2], rfl⟩
 ·go_enter Tryz.func223, Tryz.ntmps223
  go_wp2
  go_ret
  exact ⟨by simp [inB]; omega, rfl⟩
theorem l1Num_any (x : Int) (w : World) :
  Calls Tryz.prog 193 #[.int .i64 x] w fun e w' => e = .returned (.bool (inB x (-1000000000) 1000000000)) /\ w' = w := by
 go_enter Tryz.func193, Tryz.ntmps193
 go_wp2_with (go_at_call 83; refine (l1In_any _ _ _ _).mono ?_; rintro e w' ⟨rfl, rfl⟩)
 go_ret
 exact ⟨rfl, rfl⟩
abbrev insV (op r a b n : Int) : Value := .agg #[.int .i64 op, .int .i64 r, .int .i64 a, .int .i64 b, .int .i64 n]
theorem toIns_any (op r a b n : Int) (w : World) :
  Calls Tryz.prog 204 #[insV op r a b n] w fun e w' => e = .returned (insV op r a b n) /\ Below w.heap.size w w' := by
 go_enter Tryz.func204, Tryz.ntmps204
 go_wp2
 refine bodyPost_ret (v := insV op r a b n) (by simp [results, Tryz.results204, go_sem]) rfl ⟨rfl, ?_⟩
 go_grown
abbrev setV (r n : Int) : Value := .agg #[.int .i64 r, .int .i64 n]
theorem placeOf_set (r a b n : Int) (w : World) :
  Calls Tryz.prog 180 #[insV 1 r a b n] w fun e w' => e = .returned (.iface 256 (setV r n)) /\ Below w.heap.size w w' := by
 go_enter Tryz.func180, Tryz.ntmps180
 go_wp2
 go_ret
 exact ⟨rfl, by go_grown⟩
theorem ins_set (r n : Int) (w : World) :
  Calls Tryz.prog 274 #[setV r n] w fun e w' => e = .returned (insV 1 r 0 0 n) /\ Below w.heap.size w w' := by
 go_enter Tryz.func274, Tryz.ntmps274
 go_wp2
 refine bodyPost_ret (v := insV 1 r 0 0 n) (by simp [results, Tryz.results274, go_sem]) rfl ⟨rfl, ?_⟩
 go_grown
abbrev calcV (op r a b : Int) : Value := .agg #[.int .i64 op, .int .i64 r, .int .i64 a, .int .i64 b]
theorem placeOf_calc2 (r a b n : Int) (w : World) :
  Calls Tryz.prog 180 #[insV 2 r a b n] w fun e w' => e = .returned (.iface 258 (calcV 2 r a b)) /\ Below w.heap.size w w' := by
 go_enter Tryz.func180, Tryz.ntmps180
 go_wp2
 go_ret
 exact ⟨rfl, by go_grown⟩
theorem placeOf_calc3 (r a b n : Int) (w : World) :
  Calls Tryz.prog 180 #[insV 3 r a b n] w fun e w' => e = .returned (.iface 258 (calcV 3 r a b)) /\ Below w.heap.size w w' := by
 go_enter Tryz.func180, Tryz.ntmps180
 go_wp2
 go_ret
 exact ⟨rfl, by go_grown⟩
theorem placeOf_calc4 (r a b n : Int) (w : World) :
  Calls Tryz.prog 180 #[insV 4 r a b n] w fun e w' => e = .returned (.iface 258 (calcV 4 r a b)) /\ Below w.heap.size w w' := by
 go_enter Tryz.func180, Tryz.ntmps180
 go_wp2
 go_ret
 exact ⟨rfl, by go_grown⟩
theorem placeOf_calc5 (r a b n : Int) (w : World) :
  Calls Tryz.prog 180 #[insV 5 r a b n] w fun e w' => e = .returned (.iface 258 (calcV 5 r a b)) /\ Below w.heap.size w w' := by
 go_enter Tryz.func180, Tryz.ntmps180
 go_wp2
 go_ret
 exact ⟨rfl, by go_grown⟩
theorem ins_calc (op r a b : Int) (w : World) :
  Calls Tryz.prog 275 #[calcV op r a b] w fun e w' => e = .returned (insV op r a b 0) /\ Below w.heap.size w w' := by
 go_enter Tryz.func275, Tryz.ntmps275
 go_wp2
 refine bodyPost_ret (v := insV op r a b 0) (by simp [results, Tryz.results275, go_sem]) rfl ⟨rfl, ?_⟩
 go_grown
abbrev sendV (n a : Int) : Value := .agg #[.int .i64 n, .int .i64 a]
theorem placeOf_send (r a b n : Int) (w : World) :
  Calls Tryz.prog 180 #[insV 6 r a b n] w fun e w' => e = .returned (.iface 250 (sendV n a)) /\ Below w.heap.size w w' := by
 go_enter Tryz.func180, Tryz.ntmps180
 go_wp2
 go_ret
 exact ⟨rfl, by go_grown⟩
theorem ins_send (n a : Int) (w : World) :
  Calls Tryz.prog 271 #[sendV n a] w fun e w' => e = .returned (insV 6 0 a 0 n) /\ Below w.heap.size w w' := by
 go_enter Tryz.func271, Tryz.ntmps271
 go_wp2
 refine bodyPost_ret (v := insV 6 0 a 0 n) (by simp [results, Tryz.results271, go_sem]) rfl ⟨rfl, ?_⟩
 go_grown
abbrev takeV (r n : Int) : Value := .agg #[.int .i64 r, .int .i64 n]
theorem placeOf_take (r a b n : Int) (w : World) :
  Calls Tryz.prog 180 #[insV 7 r a b n] w fun e w' => e = .returned (.iface 252 (takeV r n)) /\ Below w.heap.size w w' := by
 go_enter Tryz.func180, Tryz.ntmps180
 go_wp2
 go_ret
 exact ⟨rfl, by go_grown⟩
theorem ins_take (r n : Int) (w : World) :
  Calls Tryz.prog 272 #[takeV r n] w fun e w' => e = .returned (insV 7 r 0 0 n) /\ Below w.heap.size w w' := by
 go_enter Tryz.func272, Tryz.ntmps272
 go_wp2
 refine bodyPost_ret (v := insV 7 r 0 0 n) (by simp [results, Tryz.results272, go_sem]) rfl ⟨rfl, ?_⟩
 go_grown
abbrev printV (a : Int) : Value := .agg #[.int .i64 a]
theorem placeOf_print (r a b n : Int) (w : World) :
  Calls Tryz.prog 180 #[insV 8 r a b n] w fun e w' => e = .returned (.iface 254 (printV a)) /\ Below w.heap.size w w' := by
 go_enter Tryz.func180, Tryz.ntmps180
 go_wp2
 go_ret
 exact ⟨rfl, by go_grown⟩
theorem ins_print (a : Int) (w : World) :
  Calls Tryz.prog 273 #[printV a] w fun e w' => e = .returned (insV 8 0 a 0 0) /\ Below w.heap.size w w' := by
 go_enter Tryz.func273, Tryz.ntmps273
 go_wp2
 refine bodyPost_ret (v := insV 8 0 a 0 0) (by simp [results, Tryz.results273, go_sem]) rfl ⟨rfl, ?_⟩
 go_grown
abbrev jumpV (n : Int) : Value := .agg #[.int .i64 n]
theorem placeOf_jump (r a b n : Int) (w : World) :
  Calls Tryz.prog 180 #[insV 9 r a b n] w fun e w' => e = .returned (.iface 260 (jumpV n)) /\ Below w.heap.size w w' := by
 go_enter Tryz.func180, Tryz.ntmps180
 go_wp2
 go_ret
 exact ⟨rfl, by go_grown⟩
theorem ins_jump (n : Int) (w : World) :
  Calls Tryz.prog 276 #[jumpV n] w fun e w' => e = .returned (insV 9 0 0 0 n) /\ Below w.heap.size w w' := by
 go_enter Tryz.func276, Tryz.ntmps276
 go_wp2
 refine bodyPost_ret (v := insV 9 0 0 0 n) (by simp [results, Tryz.results276, go_sem]) rfl ⟨rfl, ?_⟩
 go_grown
abbrev zeroV (a n : Int) : Value := .agg #[.int .i64 a, .int .i64 n]
theorem placeOf_zero (r a b n : Int) (w : World) :
  Calls Tryz.prog 180 #[insV 10 r a b n] w fun e w' => e = .returned (.iface 262 (zeroV a n)) /\ Below w.heap.size w w' := by
 go_enter Tryz.func180, Tryz.ntmps180
 go_wp2
 go_ret
 exact ⟨rfl, by go_grown⟩
theorem ins_zero (a n : Int) (w : World) :
  Calls Tryz.prog 277 #[zeroV a n] w fun e w' => e = .returned (insV 10 0 a 0 n) /\ Below w.heap.size w w' := by
 go_enter Tryz.func277, Tryz.ntmps277
 go_wp2
 refine bodyPost_ret (v := insV 10 0 a 0 n) (by simp [results, Tryz.results277, go_sem]) rfl ⟨rfl, ?_⟩
 go_grown
abbrev endV : Value := .agg #[]
theorem placeOf_end (r a b n : Int) (w : World) :
  Calls Tryz.prog 180 #[insV 11 r a b n] w fun e w' => e = .returned (.iface 264 endV) /\ Below w.heap.size w w' := by
 go_enter Tryz.func180, Tryz.ntmps180
 go_wp2
 go_ret
 exact ⟨rfl, by go_grown⟩
theorem ins_end (w : World) :
  Calls Tryz.prog 278 #[endV] w fun e w' => e = .returned (insV 11 0 0 0 0) /\ Below w.heap.size w w' := by
 go_enter Tryz.func278, Tryz.ntmps278
 go_wp2
 refine bodyPost_ret (v := insV 11 0 0 0 0) (by simp [results, Tryz.results278, go_sem]) rfl ⟨rfl, ?_⟩
 go_grown
theorem placeOf_calc (op r a b n : Int) (w : World) (h1 : 2 <= op) (h2 : op <= 5) :
  Calls Tryz.prog 180 #[insV op r a b n] w fun e w' => e = .returned (.iface 258 (calcV op r a b)) /\ Below w.heap.size w w' := by
 have h : op = 2 \/ op = 3 \/ op = 4 \/ op = 5 := by omega
 rcases h with rfl | rfl | rfl | rfl
 ·exact placeOf_calc2 r a b n w
 ·exact placeOf_calc3 r a b n w
 ·exact placeOf_calc4 r a b n w
 ·exact placeOf_calc5 r a b n w
theorem placeOf_none (op r a b n : Int) (w : World) (h : op < 1 \/ 11 < op) :
  Calls Tryz.prog 180 #[insV op r a b n] w fun e w' => e = .returned .nilIface /\ Below w.heap.size w w' := by
 have h1 : (op == 1) = false := by simp; omega
 have h2 : (op == 2) = false := by simp; omega
 have h3 : (op == 3) = false := by simp; omega
 have h4 : (op == 4) = false := by simp; omega
 have h5 : (op == 5) = false := by simp; omega
 have h6 : (op == 6) = false := by simp; omega
 have h7 : (op == 7) = false := by simp; omega
 have h8 : (op == 8) = false := by simp; omega
 have h9 : (op == 9) = false := by simp; omega
 have h10 : (op == 10) = false := by simp; omega
 have h11 : (op == 11) = false := by simp; omega
 clear h
 go_enter Tryz.func180, Tryz.ntmps180
 go_wp2
 go_ret
 exact ⟨rfl, by go_grown⟩
def zi (xs : List Int) (i : Nat) : Int := xs.getD i 0
def Sl (w : World) (a0 : Option Addr) (xs : List Int) : Prop :=
 xs = [] \/ ∃ b off, a0 = some ⟨b, off, none⟩ /\ b < w.heap.size /\ ∀ i, i < xs.length -> w.cell? ⟨b, off + i, none⟩ = some (.int .i64 (zi xs i))
theorem Sl.below {w w' : World} {a0 : Option Addr} {xs : List Int} (h : Sl w a0 xs) (hb : Below w.heap.size w w') : Sl w' a0 xs := by
 rcases h with h | ⟨b, off, e, hlt, hc⟩
 ·exact .inl h
 ·exact .inr ⟨b, off, e, zL hlt hb.size, fun i hi => (hb.cell (p := ⟨b, off + i, none⟩) hlt).trans (hc i hi)⟩
theorem Sl.at {w : World} {a0 : Option Addr} {xs : List Int} (h : Sl w a0 xs) {k : Nat} (hk : k < xs.length) : ∃ b off, a0 = some ⟨b, off, none⟩ /\ b < w.heap.size /\ w.cell? ⟨b, off + k, none⟩ = some (.int .i64 (zi xs k)) := by
 rcases h with rfl | ⟨b, off, e, hlt, hc⟩
 ·simp at hk
 ·exact ⟨b, off, e, hlt, hc k hk⟩
def OwnI (w : World) (B : Nat) (v : Value) (xs : List Int) : Prop := w.ownsRow B 3 1 v xs.length (xs.map (Value.int .i64))
theorem OwnI.mono {w : World} {B B' : Nat} {v : Value} {xs : List Int} (h : OwnI w B v xs) (hb : B' <= B) : OwnI w B' v xs := World.ownsRow.mono h hb
theorem OwnI.kept {w w' : World} {B : Nat} {v : Value} {xs : List Int} {row : Option Nat} (h : OwnI w B v xs) (hg : w.grownBy w' row) (hne : v.ownBlock = none \/ v.ownBlock ≠ row) : OwnI w' B v xs := World.ownsRow.kept h hg hne
theorem OwnI.lt {w : World} {B : Nat} {v : Value} {xs : List Int} (h : OwnI w B v xs) : ∀ k, v.ownBlock = some k -> B <= k /\ k < w.heap.size := World.ownsRow.lt h
theorem zZ {w w' : World} (h : Below w.heap.size w w') : w.grownBy w' none := ⟨h.os, h.tape, h.output, h.size, fun k hk _ => h.block k hk⟩
theorem below_of_grown {w w' : World} (h : w.grownBy w' none) : Below w.heap.size w w' := ⟨h.os, h.tape, h.output, h.size, fun k hk => h.block k hk (by simp)⟩
theorem OwnI.below {w w' : World} {B : Nat} {v : Value} {xs : List Int} (h : OwnI w B v xs) (hb : Below w.heap.size w w') : OwnI w' B v xs := by
 refine h.kept (zZ hb) ?_
 cases hv : v.ownBlock with
 | none => exact .inl rfl
 | some k => exact .inr (by simp)
theorem yC {B : Nat} {w w' : World} (h : Below B w w') (n : Nat) : Below B w (w'.drewN n) := ⟨h.os, h.tape, h.output, h.size, h.block⟩
theorem getD_map_int (xs : List Int) (j : Nat) (hj : j < xs.length) : (xs.map (Value.int .i64))[j]? = some (.int .i64 (zi xs j)) := by
 unfold zi
 rw [List.getElem?_map, List.getElem?_eq_getElem hj, List.getD_eq_getElem?_getD, List.getElem?_eq_getElem hj]; rfl
theorem OwnI.form {w : World} {B : Nat} {v : Value} {xs : List Int} (h : OwnI w B v xs) : ∃ a0 cap, v = .slice a0 xs.length cap /\ Sl w a0 xs := by
 rcases h.2 with ⟨rfl, h0⟩ | ⟨g, cap, cur, rfl, hb, _⟩
 ·exact ⟨none, 0, by rw [h0], .inl (List.eq_nil_of_length_eq_zero h0)⟩
 ·refine ⟨_, cap, rfl, .inr ⟨g, 0, rfl, (h.lt g rfl).2, fun i hi => ?_⟩⟩
  rw [Nat.zero_add, World.ownsRow.cellAt h i (by omega)]
  exact getD_map_int xs i hi
theorem OwnI.block {w : World} {B : Nat} {v : Value} {xs : List Int} (h : OwnI w B v xs) (hn : 0 < xs.length) : ∃ g cap, v = .slice (some ⟨g, 0, none⟩) xs.length cap /\ B <= g /\ g < w.heap.size := by
 rcases h.2 with ⟨_, h0⟩ | ⟨g, cap, cur, rfl, hb, _⟩
 ·omega
 ·exact ⟨g, cap, rfl, hb, (h.lt g rfl).2⟩
theorem OwnI.cell {w : World} {B g cap : Nat} {xs : List Int} (h : OwnI w B (.slice (some ⟨g, 0, none⟩) xs.length cap) xs) {j : Nat} (hj : j < xs.length) : w.cell? ⟨g, j, none⟩ = some (.int .i64 (zi xs j)) := by
 rw [World.ownsRow.cellAt h j (by omega)]
 exact getD_map_int xs j hj
theorem OwnI.frozen {w : World} {B g cap : Nat} {xs : List Int} (h : OwnI w B (.slice (some ⟨g, 0, none⟩) xs.length cap) xs) (j : Nat) : w.frozen? ⟨g, j, none⟩ = false := World.ownsRow.frozenAt h j
theorem OwnI.set {w : World} {B g cap n : Nat} {xs : List Int} (h : OwnI w B (.slice (some ⟨g, 0, none⟩) n cap) xs) (hn : n = xs.length) (j : Nat) (x : Int) : OwnI (w.setCell ⟨g, j, none⟩ (.int .i64 x)) B (.slice (some ⟨g, 0, none⟩) n cap) (xs.set j x) /\ w.grownBy (w.setCell ⟨g, j, none⟩ (.int .i64 x)) (some g) := by
 subst hn
 have := World.ownsRow.stored h j (.int .i64 x)
 unfold OwnI
 rw [List.length_set, List.map_set]
 exact this
theorem infoInt : (Tryz.prog.info? 3).map (fun i => (i.zero, i.size, i.bytes)) = some (some (.int .i64 0), 1, 8) := by kernel_rfl
theorem run_make_int (n : Nat) (hn : n <= 1048576) (w : World) :
  (Instr.makeSlice 37 (.int .i64 (n : Int)) (.int .i64 (n : Int))).run Tryz.prog w = .ok (.slice (some ⟨w.heap.size, 0, none⟩) n n) (w.alloc (.cells (madeCells #[.int .i64 0] n) 3)) := by
 have hinfo := infoInt
 cases hi : Tryz.prog.info? 3 with
 | none => rw [hi] at hinfo; cases hinfo
 | some i =>
  rw [hi] at hinfo
  simp only [Option.map_some, Option.some.injEq, Prod.mk.injEq] at hinfo
  obtain ⟨hz, hs, hb⟩ := hinfo
  have h := run_make (P := Tryz.prog) w 37 3 i _ Tryz.underlying37 hi hz .i64 .i64 (n : Int) (n : Int) (by omega) (Int.le_refl _) (by rw [hb]; omega) (by omega)
  rw [hs] at h
  simpa [Value.cells] using h
theorem made_own (w : World) (n : Nat) (hn : n <= 1048576) : OwnI (w.alloc (.cells (madeCells #[.int .i64 0] n) 3)) w.heap.size (.slice (some ⟨w.heap.size, 0, none⟩) n n) (List.replicate n 0) := by
 have := World.ownsRow_lit (base := w.heap.size) (e := 3) (size := 1) w (madeCells #[.int .i64 0] n) n (Nat.le_refl _) (by unfold maxLen; omega) (by simp [size_madeCells])
 rw [toList_madeCells_one] at this
 unfold OwnI
 rw [List.length_replicate, List.map_replicate]
 exact this
abbrev stV (p : Int) (ra : Option Addr) (rn rc : Nat) (oa : Option Addr) (on oc : Nat) (code : Int) : Value := .agg #[.int .i64 p, .slice ra rn rc, .slice oa on oc, .int .i64 code]
theorem i64_and255 (n : Int) : bits .and .i64 n 255 = n % 256 := by
 have h255 : (BitVec.ofInt 64 255).toNat = 2 ^ 8 - 1 := by decide
 have key : (BitVec.ofInt 64 n &&& BitVec.ofInt 64 255).toNat = (n % ((2 ^ 64 : Nat) : Int)).toNat % 2 ^ 8 := by
  rw [BitVec.toNat_and, BitVec.toNat_ofInt, h255, Nat.and_two_pow_sub_one_eq_mod]
 show IntKind.i64.wrap ((BitVec.ofInt 64 n &&& BitVec.ofInt 64 255).toNat : Nat) = n % 256
 rw [key, IntKind.wrap_i64]
 omega
def BytesAt (w : World) (W0 : Nat) (a0 : Option Addr) (len : Nat) : Prop :=
 len = 0 \/ ∃ b off, a0 = some ⟨b, off, none⟩ /\ b < W0 /\ ∀ j, j < len -> ∃ z : Int, w.cell? ⟨b, off + j, none⟩ = some (.int .u8 z) /\ 0 <= z /\ z <= 255
structure Cur (w : World) (W0 c : Nat) (a0 : Option Addr) (len cap : Nat) : Prop where
 ex : ∃ (i : Nat) (h : Int), w.cell? ⟨c, 0, none⟩ = some (.slice a0 len cap) /\ w.cell? ⟨c, 1, none⟩ = some (.int .i64 i) /\ w.cell? ⟨c, 2, none⟩ = some (.int .i64 h)
 fr : ∀ o, w.frozen? ⟨c, o, none⟩ = false
 lt : c < w.heap.size
 ge : W0 <= c
 by' : BytesAt w W0 a0 len
 ln : len <= 1048576
theorem BytesAt.kept {w w' : World} {W0 len : Nat} {a0 : Option Addr} (h : BytesAt w W0 a0 len) (hb : ∀ k, k < W0 -> w'.heap[k]? = w.heap[k]?) : BytesAt w' W0 a0 len := by
 rcases h with h | ⟨b, off, e, hlt, hz⟩
 ·exact .inl h
 ·refine .inr ⟨b, off, e, hlt, fun j hj => ?_⟩
  obtain ⟨z, hz1, hz2⟩ := hz j hj
  exact ⟨z, (zH (hb b hlt)).trans hz1, hz2⟩
theorem Cur.kept {w w' : World} {W0 c len cap : Nat} {a0 : Option Addr} {row : Option Nat} (h : Cur w W0 c a0 len cap) (hg : w.grownBy w' row) (hne : some c ≠ row) (hr : ∀ k, row = some k -> W0 <= k) : Cur w' W0 c a0 len cap := by
 have hc := hg.block c h.lt hne
 obtain ⟨i, hh, h0, h1, h2⟩ := h.ex
 refine ⟨⟨i, hh, (zH hc).trans h0, (zH hc).trans h1, (zH hc).trans h2⟩, fun o => (zI hc).trans (h.fr o), zL h.lt hg.size, h.ge, ?_, h.ln⟩
 exact h.by'.kept fun k hk => hg.block k (Nat.lt_trans (zL hk h.ge) h.lt) (fun e => by have := hr k e.symm; omega)
theorem Cur.alloc {w : World} {W0 c len cap : Nat} {a0 : Option Addr} (h : Cur w W0 c a0 len cap) (o : Obj) : Cur (w.alloc o) W0 c a0 len cap :=
 h.kept (World.grownBy_alloc w o none) (by simp) (fun k hk => by cases hk)
theorem grown_drewN {w w' : World} {row : Option Nat} (h : w.grownBy w' row) (n : Nat) : w.grownBy (w'.drewN n) row := ⟨h.os, h.tape, h.output, h.size, h.block⟩
theorem zV {w w' : World} {row : Option Nat} (h : w.grownBy w' row) {p : Addr} (hp : row = some p.block \/ w.heap.size <= p.block) (v : Value) : w.grownBy (w'.setCell p v) row :=
 ⟨h.os, h.tape, h.output, by simpa using h.size, fun k hk hne => by
  rw [Below.heap_setCell w' p v k (fun e => by
   subst e
   rcases hp with hp | hp
   ·exact hne hp.symm
   ·omega)]
  exact h.block k hk hne⟩
theorem Cur.drewN {w : World} {W0 c len cap : Nat} {a0 : Option Addr} (h : Cur w W0 c a0 len cap) (n : Nat) : Cur (w.drewN n) W0 c a0 len cap := ⟨h.ex, h.fr, h.lt, h.ge, h.by', h.ln⟩
theorem Cur.drew {w : World} {W0 c len cap : Nat} {a0 : Option Addr} (h : Cur w W0 c a0 len cap) : Cur w.drew W0 c a0 len cap := ⟨h.ex, h.fr, h.lt, h.ge, h.by', h.ln⟩
theorem Cur.bytesSet {w : World} {W0 c len cap : Nat} {a0 : Option Addr} (h : Cur w W0 c a0 len cap) (o : Nat) (v : Value) : BytesAt (w.setCell ⟨c, o, none⟩ v) W0 a0 len :=
 h.by'.kept fun k hk => zO w ⟨c, o, none⟩ v k (fun e => by have := h.ge; simp at e; omega)
theorem Cur.set2 {w : World} {W0 c len cap : Nat} {a0 : Option Addr} (h : Cur w W0 c a0 len cap) (x : Int) : Cur (w.setCell ⟨c, 2, none⟩ (.int .i64 x)) W0 c a0 len cap := by
 obtain ⟨i, y, h0, h1, h2⟩ := h.ex
 exact ⟨⟨i, x, by go_cell, by go_cell, by go_cell⟩, fun o => by simpa using h.fr o, by simpa using h.lt, h.ge, h.bytesSet _ _, h.ln⟩
theorem Cur.set1 {w : World} {W0 c len cap : Nat} {a0 : Option Addr} (h : Cur w W0 c a0 len cap) (x : Int) (hx : 0 <= x) : Cur (w.setCell ⟨c, 1, none⟩ (.int .i64 x)) W0 c a0 len cap := by
 obtain ⟨i, y, h0, h1, h2⟩ := h.ex
 obtain ⟨k, rfl⟩ := Int.eq_ofNat_of_zero_le hx
 exact ⟨⟨k, y, by go_cell, by go_cell, by go_cell⟩, fun o => by simpa using h.fr o, by simpa using h.lt, h.ge, h.bytesSet _ _, h.ln⟩
theorem l1Byte_any (W0 c len cap : Nat) (a0 : Option Addr) (w : World) (hc : Cur w W0 c a0 len cap) :
  Calls Tryz.prog 170 #[.pointer (some ⟨c, 0, none⟩)] w fun e w' => ∃ x : Int, e = .returned (.int .i64 x) /\ (0 <= x /\ x <= 255) /\ Cur w' W0 c a0 len cap /\ w.grownBy w' (some c) := by
 have HCur : Hid (Cur w W0 c a0 len cap) := hc
 obtain ⟨⟨i, h, c0, c1, c2⟩, fr, lt, ge, hby, ln⟩ := hc
 have f1 := fr 1
 have f2 := fr 2
 have ln' : (len : Int) <= 1048576 := by omega
 have HB : Hid (BytesAt w W0 a0 len) := hby
 clear hby fr
 have hand := i64_and255
 by_cases hil : i < len
 ·have hil' : (i : Int) < (len : Int) := by omega
  rcases HB.out with hb | ⟨b, off, rfl, hbW, hz⟩
  ·omega
  obtain ⟨z, cz, z0, z1⟩ := hz i hil
  have hbc : b ≠ c := by omega
  clear hz
  go_enter Tryz.func170, Tryz.ntmps170
  go_wp2
  generalize wrap64 (wrap64 (h * 6364136223846793005) + 1442695040888963407) = h2
  go_quiet (fail)
  go_wp2
  go_quiet (fail)
  go_wp2
  go_quiet (fail)
  go_wp2
  go_ret
  refine ⟨_, rfl, by omega, ?_, ?_⟩
  ·exact ((HCur.out.set2 h2).drewN _).set1 ((i : Int) + 1) (by omega)
  ·exact zV (p := ⟨c, 1, none⟩) (grown_drewN (zV (p := ⟨c, 2, none⟩) (World.grownBy.refl w (some c)) (.inl rfl) _) _) (.inl rfl) _
 ·have hil' : ¬ ((i : Int) < (len : Int)) := by omega
  go_enter Tryz.func170, Tryz.ntmps170
  go_wp2
  generalize wrap64 (wrap64 (h * 6364136223846793005) + 1442695040888963407) = h2
  go_quiet (fail)
  go_wp2
  go_quiet (fail)
  go_wp2
  go_ret
  refine ⟨_, rfl, by omega, ?_, ?_⟩
  ·exact ((HCur.out.set2 h2).drewN _).drewN _
  ·exact grown_drewN (grown_drewN (zV (World.grownBy.refl _ _) (.inl rfl) _) _) _
theorem zY (W0 c len cap : Nat) (a0 : Option Addr) (n : Int) (w : World) (hc : Cur w W0 c a0 len cap) (n1 : 1 <= n) (n2 : n <= 256) :
  Calls Tryz.prog 94 #[.pointer (some ⟨c, 0, none⟩), .int .i64 n] w fun e w' => ∃ x : Int, e = .returned (.int .i64 x) /\ (0 <= x /\ x < n) /\ Cur w' W0 c a0 len cap /\ w.grownBy w' (some c) := by
 have n3 : ¬ n <= 0 := by omega
 have n4 : (n == 0) = false := by simp; omega
 have HCur : Hid (Cur w W0 c a0 len cap) := hc
 clear hc
 go_enter Tryz.func94, Tryz.ntmps94
 go_wp2_with fail
 refine (l1Byte_any W0 c len cap a0 _ HCur.out).mono ?_
 rintro e w1 ⟨x, rfl, ⟨x0, x1⟩, hc1, hg1⟩
 have HC1 : Hid (Cur w1 W0 c a0 len cap) := hc1
 have HG1 : Hid (w.grownBy w1 (some c)) := hg1
 clear hc1 hg1
 go_wp2
 go_ret
 exact ⟨_, rfl, ⟨Int.emod_nonneg _ (by omega), Int.emod_lt_of_pos _ (by omega)⟩, HC1.out, HG1.out⟩
theorem l1Once_any (W0 c len cap : Nat) (a0 : Option Addr) (n : Int) (w : World) (hc : Cur w W0 c a0 len cap) (n1 : 1 <= n) (n2 : n <= 256) :
  Calls Tryz.prog 39 #[.pointer (some ⟨c, 0, none⟩), .int .i64 n] w fun e w' => ∃ x : Bool, e = .returned (.bool x) /\ Cur w' W0 c a0 len cap /\ w.grownBy w' (some c) := by
 have HCur : Hid (Cur w W0 c a0 len cap) := hc
 clear hc
 go_enter Tryz.func39, Tryz.ntmps39
 go_wp2_with fail
 refine (zY W0 c len cap a0 _ _ HCur.out n1 n2).mono ?_
 rintro e w1 ⟨x, rfl, _, hc1, hg1⟩
 have HC1 : Hid (Cur w1 W0 c a0 len cap) := hc1
 have HG1 : Hid (w.grownBy w1 (some c)) := hg1
 clear hc1 hg1
 go_wp2
 go_ret
 exact ⟨_, rfl, HC1.out, HG1.out⟩
def IntsAt (w : World) (b len : Nat) (z : Nat -> Int) : Prop := ∀ j, j < len -> w.cell? ⟨b, j, none⟩ = some (.int .i64 (z j))
theorem l1PickInt_of (W0 c len cap b m mc : Nat) (a0 : Option Addr) (z : Nat -> Int) (w : World) (hc : Cur w W0 c a0 len cap) (n1 : 1 <= m) (n2 : m <= 256) (hb : b < w.heap.size) (hne : b ≠ c) (hz : IntsAt w b m z) :
  Calls Tryz.prog 40 #[.pointer (some ⟨c, 0, none⟩), .slice (some ⟨b, 0, none⟩) m mc] w fun e w' => ∃ k : Nat, k < m /\ e = .returned (.int .i64 (z k)) /\ Cur w' W0 c a0 len cap /\ w.grownBy w' (some c) := by
 have HCur : Hid (Cur w W0 c a0 len cap) := hc
 have HZ : Hid (IntsAt w b m z) := hz
 clear hc hz
 go_enter Tryz.func40, Tryz.ntmps40
 go_wp2_with fail
 refine (zY W0 c len cap a0 _ _ HCur.out (by omega) (by omega)).mono ?_
 rintro e w1 ⟨x, rfl, ⟨x0, x1⟩, hc1, hg1⟩
 obtain ⟨k, rfl⟩ := Int.eq_ofNat_of_zero_le x0
 have cz : w1.cell? ⟨b, k, none⟩ = some (.int .i64 (z k)) := (zH (hg1.block b hb (by simp [hne]))).trans (HZ.out k (by omega))
 have HC1 : Hid (Cur w1 W0 c a0 len cap) := hc1
 have HG1 : Hid (w.grownBy w1 (some c)) := hg1
 clear hc1 hg1
 go_wp2
 go_ret
 exact ⟨k, by omega, rfl, HC1.out, HG1.out⟩
theorem l1PickInt_any (W0 c len cap b m mc : Nat) (a0 : Option Addr) (z : Nat -> Int) (w : World) (hc : Cur w W0 c a0 len cap) (n1 : 1 <= m) (n2 : m <= 256) (hb : b < w.heap.size) (hne : b ≠ c) (hz : IntsAt w b m z) :
  Calls Tryz.prog 40 #[.pointer (some ⟨c, 0, none⟩), .slice (some ⟨b, 0, none⟩) m mc] w fun e w' => ∃ x : Int, e = .returned (.int .i64 x) /\ Cur w' W0 c a0 len cap /\ w.grownBy w' (some c) := by
 refine (l1PickInt_of W0 c len cap b m mc a0 z w hc n1 n2 hb hne hz).mono ?_
 rintro e w' ⟨k, -, he, h⟩
 exact ⟨_, he, h⟩
end Go.Proofs.YtcplnkhdclcgfaaGreatDoor
