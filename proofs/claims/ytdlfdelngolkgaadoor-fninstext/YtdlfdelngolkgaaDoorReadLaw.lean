/- Proved: called with whatever line, the program's InsRead answers as the model's InsRead; the row lists the package-level variables that are met, as their text lays them, and the card ties them to it. -/
import Derived.Test.YtdlfdelngolkgaaDoorReadY
import Derived.Test.YtdlfdelngolkgaaDoorCards
import Derived.Test.YtdlfdelngolkgaaDoorTie
import Derived.ProofKit
import Derived.OpenShut
import Derived.ShutString
import Derived.ChangeOld
import Derived.Below
import Derived.OpenVars
import Derived.Deep.DeepHandedRow
import Derived.Lib.LaidTab
import Derived.Stop.LaidErr
import Derived.Shelf.Vars
namespace Go.Proofs.YtdlfdelngolkgaaDoor
open Go.ChangeShapes Go.WideShapes Go.ChangeAt Go.RowKit

theorem Tryd.own : ownKnob Tryd.prog.godebug = none := by kernel_rfl
theorem Tryd.laidOut : laidOutB Tryd.prog = true := by kernel_rfl

/-- Two ends of InsRead at one line are alike. -/
theorem readR_same {s : ByteArray} {e f : Ending} (he : ReadR s e) (hf : ReadR s f) : f = e := by
  obtain ⟨t, x, h1, h2, h3⟩ := he
  obtain ⟨u, y, k1, k2, k3⟩ := hf
  rw [h1, k1]
  cases t with
  | true =>
    cases u with
    | true => rw [read_one (h2 rfl) (k2 rfl)]
    | false => exact absurd (h2 rfl) ((k3 rfl).2 x)
  | false =>
    cases u with
    | true => exact absurd (k2 rfl) ((h3 rfl).2 y)
    | false => rw [(h3 rfl).1, (k3 rfl).1]

set_option maxHeartbeats 400000 in
theorem eqIns_same (op r a b n : Int) (w : World) :
    Calls Tryd.prog 13 #[insV op r a b n, insV op r a b n] w fun e w' => e = .returned (.bool true) ∧ Below w.heap.size w w' := by
  go_enter Tryd.func13, Tryd.ntmps13
  go_wp2
  go_ret
  exact ⟨rfl, by go_grown⟩

set_option maxRecDepth 100000 in
set_option maxHeartbeats 1000000 in
theorem readLaw (s : ByteArray) (w : World) (hE : Env2 w) (hS : s.size ≤ 1048576 → ∀ w, Calls Tryd.prog 12 #[.string s] w fun e w' => ReadR s e ∧ Below w.heap.size w w') (hmax : s.size ≤ 9223372036854775807) :
    Calls Tryd.prog 4 #[.string s] w fun e w' => e = .returned (.bool true) ∧ Below w.heap.size w w' := by
  have HE : Hid (Env2 w) := hE
  have HS : Hid (s.size ≤ 1048576 → ∀ w, Calls Tryd.prog 12 #[.string s] w fun e w' => ReadR s e ∧ Below w.heap.size w w') := hS
  clear hE hS
  have hmax' : (s.size : Int) ≤ 9223372036854775807 := by omega
  by_cases hs : s.size ≤ 1048576
  · have hs1 : ¬ (1048576 : Int) < (s.size : Int) := by omega
    go_enter Tryd.func4, Tryd.ntmps4
    go_wp2_with fail
    refine (HS.out hs _).mono ?_
    rintro e w1 ⟨hr1, hb1⟩
    obtain ⟨t, x, rfl, -⟩ := id hr1
    have HR : Hid (ReadR s (.returned (.tuple #[insV5 x, .bool t]))) := hr1
    have B1 : Hid (Below w.heap.size w w1) := hb1
    have hz1 := hb1.size
    clear hr1 hb1
    rw [insV5]
    go_wp2_with fail
    refine (implInsRead_any s _ ((HE.out.self B1.out).self ((Below.refl _ _).alloc (Nat.le_refl _) _)) hs).mono ?_
    rintro e w2 ⟨hr2, hb2⟩
    obtain rfl := readR_same HR.out hr2
    have d0 : w2.cell? ⟨w1.heap.size, 0, none⟩ = some (.int .i64 x.o) := by rw [hb2.cell (by simp)]; simp
    have d1 : w2.cell? ⟨w1.heap.size, 1, none⟩ = some (.int .i64 x.r) := by rw [hb2.cell (by simp)]; simp
    have d2 : w2.cell? ⟨w1.heap.size, 2, none⟩ = some (.int .i64 x.a) := by rw [hb2.cell (by simp)]; simp
    have d3 : w2.cell? ⟨w1.heap.size, 3, none⟩ = some (.int .i64 x.b) := by rw [hb2.cell (by simp)]; simp
    have d4 : w2.cell? ⟨w1.heap.size, 4, none⟩ = some (.int .i64 x.n) := by rw [hb2.cell (by simp)]; simp
    have hz2 : w1.heap.size < w2.heap.size := by have := hb2.size; simp at this; omega
    have hz3 : ¬ w2.heap.size = w1.heap.size := by omega
    have B2 : Hid (Below w.heap.size w w2) := (B1.out.alloc hz1 _).trans (hb2.mono (by simp; omega))
    clear hr2 hb2 HR
    rw [insV5]
    go_wp2_with fail
    refine (eqIns_same _ _ _ _ _ _).mono ?_
    rintro e w3 ⟨rfl, hb3⟩
    have s2 := B2.out.size
    have B3 : Hid (Below w.heap.size w w3) := (B2.out.alloc s2 _).trans (hb3.mono (by simp; omega))
    clear hb3 d0 d1 d2 d3 d4
    cases t with
    | true =>
      go_wp2
      go_ret
      exact ⟨rfl, B3.out⟩
    | false =>
      go_wp2
      go_ret
      exact ⟨rfl, B3.out⟩
  · have hs1 : (1048576 : Int) < (s.size : Int) := by omega
    go_enter Tryd.func4, Tryd.ntmps4
    go_wp2
    go_ret
    exact ⟨rfl, by go_grown⟩

theorem gWords : Tryd.prog.globalNamed "loop.example/g00196/impl.opWords" = some 0 := by kernel_rfl
theorem gWordsType : (Tryd.prog.globals[0]?).map (·.type) = some 87 := by kernel_rfl
theorem gPowType : (Tryd.prog.globals[6]?).map (·.type) = some 129 := by kernel_rfl
theorem cellsStr : Tryd.prog.cellsOf 9 = 1 := by kernel_rfl
theorem cellsWords : Tryd.prog.cellsOf 87 = 12 := by kernel_rfl
theorem cellsU64 : Tryd.prog.cellsOf 104 = 1 := by kernel_rfl
theorem cellsPow : Tryd.prog.cellsOf 129 = 20 := by kernel_rfl
theorem gDeb : Tryd.prog.globalNamed "math/bits.deBruijn64tab" = some 8 := by kernel_rfl
theorem powData : (Rows.laid_internal_strconv_uint64pow10 : DataW Unit) = Lib.tabData .u64 Lib.pow10Tab := by kernel_rfl

theorem var_lt {W : World} {nm : String} {g : Nat} {cs : Array Value} (hg : Tryd.prog.globalNamed nm = some g) (h : W.var? Tryd.prog nm = some cs) : g < W.heap.size := by
  unfold World.var? at h
  rw [hg] at h
  simp only [Option.bind_some] at h
  cases hh : W.heap[g]? with
  | none => rw [hh] at h; cases h
  | some ob => exact (Array.getElem?_eq_some_iff.1 hh).1

/-- The words' bytes. -/
def wordL : List (List UInt8) := [[], [115, 101, 116], [97, 100, 100], [115, 117, 98], [109, 117, 108], [108, 101, 115, 115], [115, 101, 110, 100], [116, 97, 107, 101], [112, 114, 105, 110, 116], [106, 117, 109, 112], [122, 101, 114, 111], [101, 110, 100]]
theorem wordT_eq (i : Nat) (h : i < 12) : wordT i = ⟨(wordL.getD i []).toArray⟩ := by
  match i, h with
  | 0, _ => rfl
  | 1, _ => rfl
  | 2, _ => rfl
  | 3, _ => rfl
  | 4, _ => rfl
  | 5, _ => rfl
  | 6, _ => rfl
  | 7, _ => rfl
  | 8, _ => rfl
  | 9, _ => rfl
  | 10, _ => rfl
  | 11, _ => rfl
theorem wordsData : (Rows.laid_loop_example_g00196_impl_opWords : DataW Unit) = .agg (wordL.map fun s => .lit (.string s)) := by kernel_rfl

/-- An array of texts that reads as these texts holds them, cell for cell. -/
theorem cells_of_words {H : Type} {enc : TypeId × Value → H} {w : World} {base fuel : Nat} {sp : Nat → Bool} {held : Bool} {cs : List Value} {p : List MemPlace}
    (h : DataW.trod enc Tryd.prog w base sp held fuel 87 cs = some (.agg (wordL.map fun s => .lit (.string s)), p)) : ∀ i, i < 12 → cs[i]? = some (.string (wordT i)) := by
  obtain ⟨xs, m, -, hx, -, hl, hi⟩ := DataW.trod_array Tryd.underlying87 h
  intro i h12
  have hagg : xs.map (·.1) = wordL.map fun s => (DataW.lit (.string s) : DataW H) := by
    have := congrArg Prod.fst hx
    simpa using this.symm
  have q := hi i h12
  rw [cellsStr, Nat.mul_one, List.getElem?_eq_getElem (by omega)] at q
  obtain ⟨s, e, e2, -⟩ := DataW.trod_string Tryd.underlying9 q
  have hc : cs[i]? = some (.string s) := by
    have := congrArg (·[0]?) e
    simpa [List.getElem?_take, List.getElem?_drop] using this
  have h1 : (xs.map (·.1))[i]? = some (DataW.lit (.string s.data.toList) : DataW H) := by
    rw [List.getElem?_map, List.getElem?_eq_getElem (by omega), e2]
    rfl
  rw [hagg, List.getElem?_map] at h1
  have hwl : i < wordL.length := by rw [show wordL.length = 12 from rfl]; exact h12
  rw [List.getElem?_eq_getElem hwl] at h1
  simp only [Option.map_some, Option.some.injEq, DataW.lit.injEq, Lit.string.injEq] at h1
  rw [hc, wordT_eq i h12, List.getD_eq_getElem?_getD, List.getElem?_eq_getElem hwl, Option.getD_some, h1]

theorem gMaxLen : Tryd.prog.globalNamed "internal/bytealg.MaxLen" = some 1 := by kernel_rfl
theorem gErrType : (Tryd.prog.globals[2]?).map (·.type) = some 84 := by kernel_rfl
theorem gErrType2 : (Tryd.prog.globals[3]?).map (·.type) = some 84 := by kernel_rfl

theorem cellsErr : Tryd.prog.cellsOf 127 = 1 := by kernel_rfl
theorem starErr : "*" ++ "errors.errorString" = "*errors.errorString" := by decide
theorem rowErr (u : TypeId) (h : Tryd.prog.typeName? 3 u = some "*errors.errorString") : u = 125 :=
  typeName_ptr_named (nm := "errors.errorString") (by rw [starErr]; kernel_rfl) (by kernel_rfl) (by decide) u (by rw [starErr]; exact h)

/-- What the row's list gives. -/
theorem env_of {W : World} (hL0 : laidMetH Tryd.prog Rows.fnExactInsReadRow.laid W) (hO : W.ShapedOpen Tryd.prog) : Env2 W := by
  have hL : laidMet Tryd.prog Rows.fnExactInsReadRow.laid W := hL0
  have h1 : laidMet Tryd.prog _ W := hL.tail
  have h2 : laidMet Tryd.prog _ W := h1.tail
  have h3 : laidMet Tryd.prog _ W := h2.tail
  have h4 : laidMet Tryd.prog _ W := h3.tail
  have h5 : laidMet Tryd.prog _ W := h4.tail
  have h6 : laidMet Tryd.prog _ W := h5.tail
  have hd : 9 ≤ W.heap.size := by
    obtain ⟨ps, ⟨g, t, cs, fuel, p, q, hg, ht, hvar, hd, _, _⟩, _⟩ := h1
    have := var_lt gDeb hvar
    omega
  rw [powData] at h2
  refine ⟨⟨fun i hi => ?_, Lib.tabIs_of_head gPow gPowType Tryd.underlying129 Tryd.underlying104 cellsU64 cellsPow h2, hd⟩, ?_, ?_, cell_of_shapedOpen_int (zero := #[.int .i64 0]) (t := 3) hO (of_decide_eq_true (by kernel_rfl)) (by kernel_rfl) rfl (by kernel_rfl) (by kernel_rfl) Tryd.underlying3⟩
  · obtain ⟨ps, ⟨g, t, cs, fuel, p, q, hg, ht, hvar, hd, _, _⟩, _⟩ := h6
    obtain rfl := Option.some.inj (gWords.symm.trans hg)
    obtain rfl := Option.some.inj (gWordsType.symm.trans ht)
    rw [wordsData] at hd
    rw [World.var?_cell gWords hvar i]
    have := cells_of_words hd i hi
    simpa using this
  · obtain ⟨a, _, h, _⟩ := laid_sentinel h5 gSyn gErrType Tryd.underlying84 rowErr Tryd.underlying125 Tryd.underlying127 rfl rfl Tryd.underlying9 cellsErr cellsStr
    exact ⟨_, _, h⟩
  · obtain ⟨a, _, h, _⟩ := laid_sentinel h4 gRng gErrType2 Tryd.underlying84 rowErr Tryd.underlying125 Tryd.underlying127 rfl rfl Tryd.underlying9 cellsErr cellsStr
    exact ⟨_, _, h⟩

end Go.Proofs.YtdlfdelngolkgaaDoor
