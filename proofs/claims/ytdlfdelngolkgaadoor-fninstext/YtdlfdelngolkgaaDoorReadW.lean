/- The walks of the program's opOf and numsOf. -/
import Derived.Test.YtdlfdelngolkgaaDoorReadP
import Derived.Test.YtdlfdelngolkgaaDoorShelf2
import Derived.Lib.AtoiErrMem
import Derived.Deep.Onto
import Derived.Maps.Range
namespace Go.Proofs.YtdlfdelngolkgaaDoor
open Go.RowKit

/-- What is laid of the library besides. -/
structure Env2 (w : World) : Prop where
  env : Env w
  syn : ∃ tp p, w.var? Tryd.prog "strconv.ErrSyntax" = some #[.iface tp p]
  rng : ∃ tp p, w.var? Tryd.prog "strconv.ErrRange" = some #[.iface tp p]
  mlen : ∃ m : Int, w.cell? ⟨1, 0, none⟩ = some (.int .i64 m)

theorem gSyn : Tryd.prog.globalNamed "strconv.ErrSyntax" = some 2 := by kernel_rfl
theorem gRng : Tryd.prog.globalNamed "strconv.ErrRange" = some 3 := by kernel_rfl
theorem Env2.below {w w' : World} {B : Nat} (h : Env2 w) (hb : Below B w w') (hB : 9 ≤ B) : Env2 w' := by
  obtain ⟨tp, p, h1⟩ := h.syn
  obtain ⟨tq, q, h2⟩ := h.rng
  obtain ⟨m, h3⟩ := h.mlen
  exact ⟨h.env.below hb hB, ⟨tp, p, var?_below hb gSyn (by omega) h1⟩, ⟨tq, q, var?_below hb gRng (by omega) h2⟩, ⟨m, (hb.cell (p := ⟨1, 0, none⟩) (by simp; omega)).trans h3⟩⟩
theorem Env2.self {w w' : World} (h : Env2 w) (hb : Below w.heap.size w w') : Env2 w' := h.below hb h.env.sz

/-- Atoi at a word that is no number: an error. -/
theorem atoi_bad (s : ByteArray) (hs : s.size ≤ 1048576) (h : ∀ v, Lib.atoiAll s.data.toList ≠ .ok v) (w : World) (hE : Env2 w) :
    Calls Tryd.prog 40 #[.string s] w fun e w' => ∃ (n : Int) (N : Nat), e = .returned (.tuple #[.int .i64 n, .iface 99 (.pointer (some ⟨N, 0, none⟩))]) ∧ Below w.heap.size w w' := by
  obtain ⟨tp, p, h1⟩ := hE.syn
  obtain ⟨tq, q, h2⟩ := hE.rng
  rcases hh : Lib.atoiAll s.data.toList with v | _ | _
  · exact absurd hh (h v)
  · exact (Any.strconv_Atoi_syntax_var Tryd.laysC172 s (by omega) hh tp p w h1).mono fun e w' ⟨N, he, _, _, hb⟩ => ⟨_, N, he, hb⟩
  · exact (Any.strconv_Atoi_range_var Tryd.laysC172 s (by omega) hh tq q w h2).mono fun e w' ⟨N, he, _, _, hb⟩ => ⟨_, N, he, hb⟩
theorem atoi_good (s : ByteArray) (hs : s.size ≤ 1048576) (v : Int) (h : Lib.atoiAll s.data.toList = .ok v) (w : World) :
    Calls Tryd.prog 40 #[.string s] w fun e w' => e = .returned (.tuple #[.int .i64 v, .nilIface]) ∧ Below w.heap.size w w' := by
  refine (Tryd.strconv_Atoi_ok s (by omega) v h w).mono fun e w' ⟨he, hw⟩ => ⟨he, ?_⟩
  rcases hw with rfl | ⟨t, rfl⟩
  · exact Below.refl _ _
  · exact Lib.bytesWorld_below _ _ _

theorem opM_hit (l : List UInt8) (k : Nat) (h1 : 1 ≤ k) (h2 : k ≤ 11) (hk : (wordT k).data.toList = l) : opM l = k := by
  rw [← hk]; exact opM_word k h1 h2
theorem opM_miss (l : List UInt8) (h : ∀ j, 1 ≤ j → j ≤ 11 → (wordT j).data.toList ≠ l) : opM l = 0 := by
  rw [opM, List.find?_eq_none.2]
  · rfl
  · intro j hj
    have hj' := List.mem_range.1 hj
    simp only [decide_eq_true_eq, not_and]
    intro h0
    exact h j (by omega) (by omega)

theorem bytes_ext {a b : ByteArray} (h : a.data.toList = b.data.toList) : a = b := by
  apply ByteArray.ext
  apply Array.ext'
  exact h
theorem eqT_yes {a b : ByteArray} (h : a = b) : (a.toList == b.toList) = true := by rw [h]; simp
theorem eqT_no {a b : ByteArray} (h : ¬ a = b) : (a.toList == b.toList) = false := by
  rw [Lib.toList_data, Lib.toList_data]
  exact beq_eq_false_iff_ne.2 (fun e => h (bytes_ext e))
theorem anyL : (⟨#[97, 110, 121]⟩ : ByteArray).toList = [97, 110, 121] := by rw [Lib.toList_data]

set_option maxRecDepth 100000 in
set_option maxHeartbeats 1000000 in
theorem opOf_any (s : ByteArray) (w : World) (hE : Env w) :
    Calls Tryd.prog 27 #[.string s] w fun e w' => e = .returned (.int .i64 (opM s.data.toList)) ∧ w' = w := by
  have HE : Hid (Env w) := hE
  clear hE
  go_enter Tryd.func27, Tryd.ntmps27
  go_wp2_with fail
  go_loop [3] (fun i => ∃ k : Nat, 1 ≤ k ∧ k ≤ 12 ∧ i = .int .i64 k ∧ Hid (∀ j, 1 ≤ j → j < k → (wordT j).data.toList ≠ s.data.toList)) (fun i => 12 - (intOf i).toNat)
  case atStart => exact ⟨1, by omega, by omega, rfl, fun j h1 h2 => by omega⟩
  case round =>
    obtain ⟨k, k1, k2, rfl, HM⟩ := hrel
    by_cases hk : k ≤ 11
    · have hk' : (k : Int) ≤ 11 := by omega
      have cw := HE.out.words k (by omega)
      by_cases he : wordT k = s
      · have t := eqT_yes he
        have HF : Hid (opM s.data.toList = k) := opM_hit _ k k1 hk (by rw [he])
        clear he
        go_wp2
        go_ret
        exact ⟨by rw [HF.out]; rfl, rfl⟩
      · have t := eqT_no he
        have HN : Hid (∀ j, 1 ≤ j → j < k + 1 → (wordT j).data.toList ≠ s.data.toList) := fun j h1 h2 => by
          by_cases hj : j < k
          · exact HM.out j h1 hj
          · obtain rfl : j = k := by omega
            exact fun e => he (bytes_ext e)
        clear he
        go_wp2
        go_round
        case rel => exact ⟨k + 1, by omega, by omega, by go_num, HN⟩
        case measure => simp [intOf]; omega
    · have hk' : ¬ (k : Int) ≤ 11 := by omega
      have HF : Hid (opM s.data.toList = 0) := opM_miss _ (fun j h1 h2 => HM.out j h1 (by omega))
      go_wp2
      go_ret
      exact ⟨by rw [HF.out]; rfl, rfl⟩

theorem infoInt : (Tryd.prog.info? 3).map (fun i => (i.zero, i.size, i.bytes)) = some (some (.int .i64 0), 1, 8) := by kernel_rfl

/-- The slice v is these numbers, in a block of its own from B on. -/
def Nums (w : World) (B : Nat) (v : Value) (ns : List Int) : Prop := w.ownsRow B 3 1 v ns.length (ns.map (Value.int .i64))

/-- One number is appended to a list of the call's own. -/
theorem append_int {ops : Array Oper} {rest : List Oper} {op : Oper} {act : Act} {Q : Exit → Act → World → Prop} (w : World) (hgd : op.guard = none) (s x : Operand)
    (ho : op.op = .call { callee := .builtin .append, args := #[s, x], argTypes := #[49, 49] })
    (B : Nat) (v : Value) (ns : List Int) (hs : act.eval s = v) (hl : Nums w B v ns) (k : Int) (hx : act.eval x = .slice (some ⟨w.heap.size, 0, none⟩) 1 1) (hn : ns.length ≤ 2000000) (hB : B ≤ w.heap.size)
    (h : ∀ v' w', Nums w' B v' (ns ++ [k]) → (w.alloc (.cells #[.int .i64 k] 3)).grownBy w' v.ownBlock → wpList Tryd.prog ops Q rest (act.put op.dst v') w') :
    wpList Tryd.prog ops Q (op :: rest) act (w.alloc (.cells #[.int .i64 k] 3)) := by
  obtain ⟨i0, hi, hz0, hz1, hz2⟩ := info_parts infoInt
  refine wpList_append_own _ hgd s x 49 ho B 3 i0 (.int .i64 0) 1 8 Tryd.underlying49 hi hz0 hz1 hz2 rfl (by decide) v ns.length (ns.map (Value.int .i64)) hs (hl.alloc _) ⟨w.heap.size, 0, none⟩ 1 1
    [.int .i64 k] hx rfl (cell_one_new _ _ _) (fun u hu => ?_) (by unfold maxLen; omega) (by omega) (by simp; omega) ?_
  · simp at hu
    subst hu
    rfl
  · intro v' w' h1 h2 _
    refine h v' w' ?_ h2
    rw [Nums, List.length_append, List.map_append]
    exact h1

theorem run_make_ints (n : Nat) (hn : n ≤ 2000000) (w : World) :
    (Instr.makeSlice 49 (.int .i64 0) (.int .i64 (n : Int))).run Tryd.prog w = .ok (.slice (some ⟨w.heap.size, 0, none⟩) 0 n) (w.alloc (.cells (madeCells #[.int .i64 0] n) 3)) := by
  obtain ⟨i, hi, hz, hs, hb⟩ := info_parts infoInt
  have h := run_make (P := Tryd.prog) w 49 3 i _ Tryd.underlying49 hi hz .i64 .i64 0 (n : Int) (by omega) (by omega) (by rw [hb]; omega) (by omega)
  rw [hs] at h
  simpa [Value.cells] using h

def StrsAt (w : World) (g off m : Nat) (ws : Nat → ByteArray) : Prop := ∀ j, j < m → w.cell? ⟨g, off + j, none⟩ = some (.string (ws j))
def wordsTo (ws : Nat → ByteArray) (k : Nat) : List (List UInt8) := (List.range k).map fun j => (ws j).data.toList
theorem wordsTo_succ (ws : Nat → ByteArray) (k : Nat) : wordsTo ws (k + 1) = wordsTo ws k ++ [(ws k).data.toList] := by
  simp [wordsTo, List.range_succ]
theorem mapM_step {ws : Nat → ByteArray} {k : Nat} {ns : List Int} {v : Int} (h : (wordsTo ws k).mapM numM = some ns) (hv : numM (ws k).data.toList = some v) : (wordsTo ws (k + 1)).mapM numM = some (ns ++ [v]) := by
  rw [wordsTo_succ, List.mapM_append, h]
  simp [hv]
theorem mapM_fail {ws : Nat → ByteArray} {k m : Nat} (hk : k < m) (hv : numM (ws k).data.toList = none) : (wordsTo ws m).mapM numM = none := by
  have hmem : (ws k).data.toList ∈ wordsTo ws m := List.mem_map.2 ⟨k, List.mem_range.2 hk, rfl⟩
  cases hh : (wordsTo ws m).mapM numM with
  | none => rfl
  | some r =>
    exfalso
    obtain ⟨i, hi, e⟩ := List.getElem_of_mem hmem
    obtain ⟨b, _, hb⟩ := Lib.mapM_at hh i _ (List.getElem?_eq_getElem hi)
    rw [e, hv] at hb
    cases hb

/-- How numsOf ends: all words are numbers, and it hands them out; or one is none. -/
def NumsR (l : List (List UInt8)) (B : Nat) (e : Ending) (w' : World) : Prop :=
  (∃ ns v, l.mapM numM = some ns ∧ e = .returned (.tuple #[v, .bool true]) ∧ Nums w' B v ns) ∨ (l.mapM numM = none ∧ ∃ v, e = .returned (.tuple #[v, .bool false]))

set_option maxRecDepth 100000 in
set_option maxHeartbeats 1000000 in
theorem numsOf_any (g off m cap : Nat) (ws : Nat → ByteArray) (w : World) (hE : Env2 w) (hm : m ≤ 1048577) (hg : g < w.heap.size) (hc : StrsAt w g off m ws) (hsz : ∀ j, j < m → (ws j).size ≤ 1048576) :
    Calls Tryd.prog 25 #[.slice (some ⟨g, off, none⟩) m cap] w fun e w' => NumsR (wordsTo ws m) w.heap.size e w' ∧ Below w.heap.size w w' := by
  have HE : Hid (Env2 w) := hE
  have HC : Hid (StrsAt w g off m ws) := hc
  have HS : Hid (∀ j, j < m → (ws j).size ≤ 1048576) := hsz
  have hm' : (m : Int) ≤ 1048577 := by omega
  have hmk := run_make_ints m (by omega)
  clear hE hc hsz
  go_enter Tryd.func25, Tryd.ntmps25
  go_wp2_with fail
  clear hmk
  go_loopw [4, 14] (fun l i wr => ∃ (k : Nat) (ns : List Int), k ≤ m ∧ i = .int .i64 k ∧ Hid ((wordsTo ws k).mapM numM = some ns ∧ ns.length = k ∧ Nums wr w.heap.size l ns) ∧ Below w.heap.size w wr) (fun _ i _ => m - (intOf i).toNat)
  case atStart => exact ⟨0, [], Nat.zero_le _, rfl, ⟨rfl, rfl, World.ownsRow_made w _ m (Nat.le_refl _) (by unfold maxLen; omega) (by simp [size_madeCells])⟩, (Below.refl _ _).alloc (Nat.le_refl _) _⟩
  case round =>
    obtain ⟨k, ns, hk, rfl, HR, hbw⟩ := hrel
    have hs := hbw.size
    by_cases hlt : k < m
    · have hlt' : (k : Int) < (m : Int) := by omega
      have ck : wr.cell? ⟨g, off + k, none⟩ = some (.string (ws k)) := (hbw.cell hg).trans (HC.out k hlt)
      have hl : ns.length = k := HR.out.2.1
      by_cases ha : ws k = ⟨#[97, 110, 121]⟩
      · have t : ((ws k).toList == [97, 110, 121]) = true := by rw [← anyL]; exact eqT_yes ha
        have hv : numM (ws k).data.toList = some 9 := by rw [ha]; exact numM_any
        have HV := mapM_step HR.out.1 hv
        have HV' : Hid ((wordsTo ws (k + 1)).mapM numM = some (ns ++ [9])) := HV
        clear hv HV ha
        go_wp2_with (at_builtin; refine append_int wr rfl _ _ rfl w.heap.size u4 ns rfl HR.out.2.2 9 rfl (by omega) hs ?_; intro v' w4 hl4 hg4; have HN4 : Hid (Nums w4 w.heap.size v' (ns ++ [9])) := hl4; have hb4 : Below w.heap.size w w4 := Below.grown (hbw.alloc hs _) hg4 (by simp; omega) (fun j hj => (HR.out.2.2.lt j hj).1); clear hl4 hg4)
        go_roundw
        case rel => exact ⟨k + 1, ns ++ [9], by omega, by go_num, ⟨HV'.out, by simp; omega, HN4.out⟩, hb4⟩
        case measure => simp [intOf]; omega
      · have t : ((ws k).toList == [97, 110, 121]) = false := by rw [← anyL]; exact eqT_no ha
        have ha' : ¬ (ws k).data.toList = [97, 110, 121] := fun e => ha (bytes_ext e)
        rcases hh : Lib.atoiAll (ws k).data.toList with v | _ | _
        · have HV : Hid ((wordsTo ws (k + 1)).mapM numM = some (ns ++ [v])) := mapM_step HR.out.1 (by rw [numM, if_neg ha', hh])
          have HH : Hid (Lib.atoiAll (ws k).data.toList = .ok v) := hh
          have hb := Lib.atoiAll_bounds hh
          clear ha ha' hh
          go_wp2_with fail
          refine (atoi_good (ws k) (HS.out k hlt) v HH.out _).mono ?_
          rintro e w3 ⟨rfl, hb3⟩
          have B3 : Hid (Below w.heap.size w w3) := hbw.trans (hb3.mono hs)
          have HN3 : Hid (Nums w3 w.heap.size u4 ns) := HR.out.2.2.kept (row := none) ⟨hb3.os, hb3.tape, hb3.output, hb3.size, fun j hj _ => hb3.block j hj⟩ (by cases hv : u4.ownBlock <;> simp)
          have hs3 := B3.out.size
          clear hb3 HH
          go_wp2_with (at_builtin; refine append_int w3 rfl _ _ rfl w.heap.size u4 ns rfl HN3.out v rfl (by omega) hs3 ?_; intro v' w4 hl4 hg4; have HN4 : Hid (Nums w4 w.heap.size v' (ns ++ [v])) := hl4; have hb4 : Below w.heap.size w w4 := Below.grown (B3.out.alloc hs3 _) hg4 (by simp; omega) (fun j hj => (HN3.out.lt j hj).1); clear hl4 hg4)
          go_roundw
          case rel => exact ⟨k + 1, ns ++ [v], by omega, by go_num, ⟨HV.out, by simp; omega, HN4.out⟩, hb4⟩
          case measure => simp [intOf]; omega
        all_goals
          have HF : Hid ((wordsTo ws m).mapM numM = none) := mapM_fail hlt (by rw [numM, if_neg ha', hh])
          have HX : Hid (∀ v, Lib.atoiAll (ws k).data.toList ≠ .ok v) := fun v e => by rw [hh] at e; cases e
          clear ha ha' hh
          go_wp2_with fail
          refine (atoi_bad (ws k) (HS.out k hlt) HX.out _ (HE.out.self hbw)).mono ?_
          rintro e w3 ⟨nx, N, rfl, hb3⟩
          go_wp2
          go_ret2
          exact ⟨.inr ⟨HF.out, _, rfl⟩, hbw.trans (hb3.mono hs)⟩
    · have HF : Hid ((wordsTo ws m).mapM numM = some ns) := by
        have hkm : k = m := by omega
        have := HR.out.1
        rw [hkm] at this
        exact this
      have hlt' : ¬ (k : Int) < (m : Int) := by omega
      go_wp2
      go_ret2
      exact ⟨.inl ⟨ns, _, HF.out, rfl, HR.out.2.2⟩, hbw⟩

end Go.Proofs.YtdlfdelngolkgaaDoor
