/- Proved: called with whatever Ins, the program's InsText answers as the model's InsText; the row lists four package-level tables as their text lays them, and the card ties them to it. -/
import Derived.Test.YtcankgnhmianbahDoorTextE
import Derived.Test.YtcankgnhmianbahDoorCards
import Derived.Test.YtcankgnhmianbahDoorTie
import Derived.ProofKit
import Derived.OpenShut
import Derived.ShutString
import Derived.ChangeOld
import Derived.Below
import Derived.OpenVars
import Derived.Deep.DeepHandedRow
import Derived.Lib.LaidTab
import Derived.Stop.LaidErr
namespace Go.Proofs.YtcankgnhmianbahDoor
open Go.ChangeShapes Go.WideShapes Go.ChangeAt Go.RowKit

theorem Tryd.own : ownKnob Tryd.prog.godebug = none := by kernel_rfl
theorem Tryd.laidOut : laidOutB Tryd.prog = true := by kernel_rfl
theorem cellsLawIns : Tryd.prog.cellsOf 23 = 5 := by kernel_rfl
theorem cellsInt : Tryd.prog.cellsOf 3 = 1 := by kernel_rfl

theorem array5 {cs : Array Value} (h : cs.size = 5) : ∃ c0 c1 c2 c3 c4, cs = #[c0, c1, c2, c3, c4] := by
  obtain ⟨l⟩ := cs
  match l, h with
  | [c0, c1, c2, c3, c4], _ => exact ⟨c0, c1, c2, c3, c4, rfl⟩

/-- Five cells that read as a struct of five ints are five numbers. -/
theorem open_insCells {H : Type} {enc : TypeId × Value → H} {w : World} {base fuel : Nat} {spare : Nat → Bool} {held : Bool} {c0 c1 c2 c3 c4 : Value} {x : DataW H × List MemPlace}
    (hf : DataW.trod enc Tryd.prog w base spare held fuel 23 [c0, c1, c2, c3, c4] = some x) :
    ∃ op r a b n : Int, c0 = .int .i64 op ∧ c1 = .int .i64 r ∧ c2 = .int .i64 a ∧ c3 = .int .i64 b ∧ c4 = .int .i64 n := by
  obtain ⟨xs, m, -, -, -, hl, hx⟩ := DataW.trod_struct Tryd.underlying23 hf
  have hl : xs.length = 5 := hl
  have q0 : DataW.trod enc Tryd.prog w base spare held m 3 [c0] = xs[0]? := by simpa [cellsInt] using hx 0 _ rfl
  have q1 : DataW.trod enc Tryd.prog w base spare held m 3 [c1] = xs[1]? := by simpa [cellsInt] using hx 1 _ rfl
  have q2 : DataW.trod enc Tryd.prog w base spare held m 3 [c2] = xs[2]? := by simpa [cellsInt] using hx 2 _ rfl
  have q3 : DataW.trod enc Tryd.prog w base spare held m 3 [c3] = xs[3]? := by simpa [cellsInt] using hx 3 _ rfl
  have q4 : DataW.trod enc Tryd.prog w base spare held m 3 [c4] = xs[4]? := by simpa [cellsInt] using hx 4 _ rfl
  rw [List.getElem?_eq_getElem (by omega)] at q0 q1 q2 q3 q4
  obtain ⟨z0, e0, -, -⟩ := DataW.trod_int Tryd.underlying3 q0
  obtain ⟨z1, e1, -, -⟩ := DataW.trod_int Tryd.underlying3 q1
  obtain ⟨z2, e2, -, -⟩ := DataW.trod_int Tryd.underlying3 q2
  obtain ⟨z3, e3, -, -⟩ := DataW.trod_int Tryd.underlying3 q3
  obtain ⟨z4, e4, -, -⟩ := DataW.trod_int Tryd.underlying3 q4
  simp only [List.cons.injEq, and_true] at e0 e1 e2 e3 e4
  exact ⟨z0, z1, z2, z3, z4, e0, e1, e2, e3, e4⟩

set_option maxRecDepth 100000 in
/-- An Ins that came in: five numbers. -/
theorem open_ins {H : Type} {enc : TypeId × Value → H} {w : World} {base b0 : Nat} {spare : Nat → Bool} {held : Bool} {rc : Reach} {v : Value} {d : DataW H} {p : List MemPlace}
    (hv : Value.okWide Tryd.prog w rc b0 23 v) (h : DataW.Trod enc Tryd.prog w base spare held 23 v d p) :
    ∃ op r a b n : Int, v = insV op r a b n := by
  obtain ⟨cs, rfl, hsz⟩ := okWide_struct Tryd.underlying23 hv
  obtain ⟨c0, c1, c2, c3, c4, rfl⟩ := array5 (hsz.trans cellsLawIns)
  obtain ⟨fuel, hf⟩ := h
  obtain ⟨op, r, a, b, n, rfl, rfl, rfl, rfl, rfl⟩ := open_insCells (c0 := c0) (c1 := c1) (c2 := c2) (c3 := c3) (c4 := c4) (by simpa [Value.cells] using hf)
  exact ⟨op, r, a, b, n, rfl⟩

set_option maxRecDepth 100000 in
set_option maxHeartbeats 1000000 in
theorem textLaw (op r a b n : Int) (w : World) (hE : Env w) :
    Calls Tryd.prog 3 #[insV op r a b n] w fun e w' => e = .returned (.bool true) ∧ Below w.heap.size w w' := by
  have HE : Hid (Env w) := hE
  clear hE
  go_enter Tryd.func3, Tryd.ntmps3
  go_wp2_with fail
  refine (toIns_any _ _ _ _ _ _).mono ?_
  rintro e w1 ⟨rfl, hb1⟩
  go_wp2_with fail
  refine (specInsText_any _ _ _ _ _ _).mono ?_
  rintro e w2 ⟨rfl, hb2⟩
  have hz1 : w.heap.size < w1.heap.size := by have := hb1.size; simp at this; omega
  have hz2 : w.heap.size < w2.heap.size := by have := hb2.size; omega
  have d0 : w2.cell? ⟨w.heap.size, 0, none⟩ = some (.int .i64 op) := by rw [hb2.cell hz1, hb1.cell (by simp)]; simp
  have d1 : w2.cell? ⟨w.heap.size, 1, none⟩ = some (.int .i64 r) := by rw [hb2.cell hz1, hb1.cell (by simp)]; simp
  have d2 : w2.cell? ⟨w.heap.size, 2, none⟩ = some (.int .i64 a) := by rw [hb2.cell hz1, hb1.cell (by simp)]; simp
  have d3 : w2.cell? ⟨w.heap.size, 3, none⟩ = some (.int .i64 b) := by rw [hb2.cell hz1, hb1.cell (by simp)]; simp
  have d4 : w2.cell? ⟨w.heap.size, 4, none⟩ = some (.int .i64 n) := by rw [hb2.cell hz1, hb1.cell (by simp)]; simp
  have B2 : Hid (Below w.heap.size w w2) := (((Below.refl _ _).alloc (Nat.le_refl _) _).trans (hb1.mono (by simp))).trans (hb2.mono (Nat.le_of_lt hz1))
  clear hb1 hb2
  go_wp2_with fail
  refine (toIns_any _ _ _ _ _ _).mono ?_
  rintro e w3 ⟨rfl, hb3⟩
  have B3 : Hid (Below w.heap.size w w3) := B2.out.trans (hb3.mono (Nat.le_of_lt hz2))
  clear hb3 B2
  go_wp2_with fail
  refine (implInsText_any _ _ _ _ _ _ (HE.out.self B3.out)).mono ?_
  rintro e w4 ⟨rfl, hb4⟩
  have s3 := B3.out.size
  go_wp2
  go_ret
  exact ⟨rfl, B3.out.trans (hb4.mono s3)⟩

theorem gWords : Tryd.prog.globalNamed "loop.example/g00196/impl.opWords" = some 0 := by kernel_rfl
theorem gWordsType : (Tryd.prog.globals[0]?).map (·.type) = some 76 := by kernel_rfl
theorem gPowType : (Tryd.prog.globals[6]?).map (·.type) = some 118 := by kernel_rfl
theorem cellsStr : Tryd.prog.cellsOf 9 = 1 := by kernel_rfl
theorem cellsWords : Tryd.prog.cellsOf 76 = 12 := by kernel_rfl
theorem cellsU64 : Tryd.prog.cellsOf 93 = 1 := by kernel_rfl
theorem cellsPow : Tryd.prog.cellsOf 118 = 20 := by kernel_rfl
theorem gDeb : Tryd.prog.globalNamed "math/bits.deBruijn64tab" = some 8 := by kernel_rfl
theorem powData : (Rows.laid_internal_strconv_uint64pow10 : DataW Unit) = Lib.tabData .u64 Lib.pow10Tab := by kernel_rfl

theorem var_lt {W : World} {nm : String} {g : Nat} {cs : Array Value} (hg : Tryd.prog.globalNamed nm = some g) (h : W.var? Tryd.prog nm = some cs) : g < W.heap.size := by
  unfold World.var? at h
  rw [hg] at h
  simp only [Option.bind_some] at h
  cases hh : W.heap[g]? with
  | none => rw [hh] at h; cases h
  | some ob => exact (Array.getElem?_eq_some_iff.1 hh).1

/-- The words' bytes. -/
def wordL : List (List UInt8) := [[], [115, 101, 116], [97, 100, 100], [115, 117, 98], [109, 117, 108], [108, 101, 115, 115], [115, 101, 110, 100], [116, 97, 107, 101], [112, 114, 105, 110, 116], [106, 117, 109, 112], [122, 101, 114, 111], [101, 110, 100]]
theorem wordT_eq (i : Nat) (h : i < 12) : wordT i = ⟨(wordL.getD i []).toArray⟩ := by
  match i, h with
  | 0, _ => rfl
  | 1, _ => rfl
  | 2, _ => rfl
  | 3, _ => rfl
  | 4, _ => rfl
  | 5, _ => rfl
  | 6, _ => rfl
  | 7, _ => rfl
  | 8, _ => rfl
  | 9, _ => rfl
  | 10, _ => rfl
  | 11, _ => rfl
theorem wordsData : (Rows.laid_loop_example_g00196_impl_opWords : DataW Unit) = .agg (wordL.map fun s => .lit (.string s)) := by kernel_rfl

/-- An array of texts that reads as these texts holds them, cell for cell. -/
theorem cells_of_words {H : Type} {enc : TypeId × Value → H} {w : World} {base fuel : Nat} {sp : Nat → Bool} {held : Bool} {cs : List Value} {p : List MemPlace}
    (h : DataW.trod enc Tryd.prog w base sp held fuel 76 cs = some (.agg (wordL.map fun s => .lit (.string s)), p)) : ∀ i, i < 12 → cs[i]? = some (.string (wordT i)) := by
  obtain ⟨xs, m, -, hx, -, hl, hi⟩ := DataW.trod_array Tryd.underlying76 h
  intro i h12
  have hagg : xs.map (·.1) = wordL.map fun s => (DataW.lit (.string s) : DataW H) := by
    have := congrArg Prod.fst hx
    simpa using this.symm
  have q := hi i h12
  rw [cellsStr, Nat.mul_one, List.getElem?_eq_getElem (by omega)] at q
  obtain ⟨s, e, e2, -⟩ := DataW.trod_string Tryd.underlying9 q
  have hc : cs[i]? = some (.string s) := by
    have := congrArg (·[0]?) e
    simpa [List.getElem?_take, List.getElem?_drop] using this
  have h1 : (xs.map (·.1))[i]? = some (DataW.lit (.string s.data.toList) : DataW H) := by
    rw [List.getElem?_map, List.getElem?_eq_getElem (by omega), e2]
    rfl
  rw [hagg, List.getElem?_map] at h1
  have hwl : i < wordL.length := by rw [show wordL.length = 12 from rfl]; exact h12
  rw [List.getElem?_eq_getElem hwl] at h1
  simp only [Option.map_some, Option.some.injEq, DataW.lit.injEq, Lit.string.injEq] at h1
  rw [hc, wordT_eq i h12, List.getD_eq_getElem?_getD, List.getElem?_eq_getElem hwl, Option.getD_some, h1]

/-- What the row's list gives. -/
theorem env_of {W : World} (hL0 : laidMetH Tryd.prog Rows.fnExactInsTextRow.laid W) : Env W := by
  have hL : laidMet Tryd.prog Rows.fnExactInsTextRow.laid W := hL0
  have h1 : laidMet Tryd.prog _ W := hL.tail
  have h2 : laidMet Tryd.prog _ W := h1.tail
  have h3 : laidMet Tryd.prog _ W := h2.tail
  have hd : 9 ≤ W.heap.size := by
    obtain ⟨ps, ⟨g, t, cs, fuel, p, q, hg, ht, hvar, hd, _, _⟩, _⟩ := h1
    have := var_lt gDeb hvar
    omega
  rw [powData] at h2
  refine ⟨fun i hi => ?_, Lib.tabIs_of_head gPow gPowType Tryd.underlying118 Tryd.underlying93 cellsU64 cellsPow h2, hd⟩
  obtain ⟨ps, ⟨g, t, cs, fuel, p, q, hg, ht, hvar, hd, _, _⟩, _⟩ := h3
  obtain rfl := Option.some.inj (gWords.symm.trans hg)
  obtain rfl := Option.some.inj (gWordsType.symm.trans ht)
  rw [wordsData] at hd
  rw [World.var?_cell gWords hvar i]
  have := cells_of_words hd i hi
  simpa using this

end Go.Proofs.YtcankgnhmianbahDoor
