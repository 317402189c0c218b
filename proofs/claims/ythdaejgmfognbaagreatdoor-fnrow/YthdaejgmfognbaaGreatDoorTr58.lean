/- The row in which the least comes first is a row. -/
import Derived.Test.YthdaejgmfognbaaGreatDoorTr53
import Derived.Test.YthdaejgmfognbaaGreatDoorTe13
import Derived.Test.YthdaejgmfognbaaGreatDoorTe10
import Derived.Test.YthdaejgmfognbaaGreatDoorTr54
namespace Go.Proofs.YthdaejgmfognbaaGreatDoor
open Go.ChangeShapes Go.WideShapes Go.ChangeAt Go.RowKit Go.Deep

/-- The row in which these processes come in turn. -/
def tnH (f : Nat → Nat) (k : Nat) : Wo2 := ⟨(f k : Nat), (tnD f k (f k) : Nat)⟩
theorem rwB_yes {y : Sy} {h : Nat → Wo2} {n : Nat} (e : y.okB = true) : rwB y h n = qB (y.hs.RwOk h n) := by rw [rwB, e]; rfl
/-- The row in which the least comes first: how long, and which. -/
noncomputable def rwN (y : Sy) : Nat := if y.okB = true then y.hs.tot else 0
noncomputable def rwH (y : Sy) : Nat → Wo2 := tnH y.hs.gf

theorem infoWo : (Tryz.prog.info? 43).map (fun i => (i.zero, i.size, i.bytes)) = some (some (woV 0 0), 2, 16) := by kernel_rfl
/-- The cells of the first n places. -/
def flW (h : Nat → Wo2) : Nat → List Value
  | 0 => []
  | n + 1 => flW h n ++ [.int .i64 (h n).m, .int .i64 (h n).v]
theorem flW_length (h : Nat → Wo2) : ∀ n, (flW h n).length = n * 2
  | 0 => rfl
  | n + 1 => by
    rw [flW, List.length_append, flW_length h n]
    simp
    omega
theorem flW_at (h : Nat → Wo2) : ∀ n i, i < n → (flW h n)[i * 2]? = some (.int .i64 (h i).m) ∧ (flW h n)[i * 2 + 1]? = some (.int .i64 (h i).v)
  | 0, i, hi => by omega
  | n + 1, i, hi => by
    have hl := flW_length h n
    by_cases e : i = n
    · subst e
      rw [flW, List.getElem?_append_right (by omega), List.getElem?_append_right (by omega), hl]
      simp
    · obtain ⟨h0, h1⟩ := flW_at h n i (by omega)
      rw [flW, List.getElem?_append_left (by omega), List.getElem?_append_left (by omega)]
      exact ⟨h0, h1⟩

/-- The slice v is n places of a row in a block of its own from B on. -/
def OwR (w : World) (B : Nat) (v : Value) (n : Nat) (h : Nat → Wo2) : Prop := w.ownsRow B 43 2 v n (flW h n) ∧ v ≠ .slice none 0 0
theorem OwR.form {w : World} {B n : Nat} {v : Value} {h : Nat → Wo2} (o : OwR w B v n h) : ∃ g cap, v = .slice (some ⟨g, 0, none⟩) n cap ∧ B ≤ g ∧ g < w.heap.size ∧ WoAt w g 0 n h ∧ ∀ j, w.frozen? ⟨g, j, none⟩ = false := by
  obtain ⟨ho, hv⟩ := o
  rcases ho.2 with ⟨h0, _⟩ | ⟨g, cap, cur, rfl, hb, _⟩
  · exact absurd h0 hv
  · refine ⟨g, cap, rfl, hb, (ho.lt g rfl).2, fun i hi => ?_, fun j => ho.frozenAt j⟩
    obtain ⟨f0, f1⟩ := flW_at h n i hi
    rw [Nat.zero_add, ho.cellAt _ (by omega), ho.cellAt _ (by omega)]
    exact ⟨f0, f1⟩
theorem OwR.ofBlock {w w' : World} {B n : Nat} {v : Value} {h : Nat → Wo2} (o : OwR w B v n h) (ha : ∀ k, v.ownBlock = some k → w'.heap[k]? = w.heap[k]?) : OwR w' B v n h := by
  obtain ⟨ho, hv⟩ := o
  refine ⟨?_, hv⟩
  rcases ho.2 with ⟨rfl, h0⟩ | ⟨g, cap, cur, rfl, hb, hg, hr⟩
  · exact absurd rfl hv
  · refine ⟨ho.1, .inr ⟨g, cap, cur, rfl, hb, ?_, hr⟩⟩
    rw [ha g rfl]
    exact hg
theorem OwR.lt {w : World} {B n : Nat} {v : Value} {h : Nat → Wo2} (o : OwR w B v n h) : ∀ j, v.ownBlock = some j → B ≤ j ∧ j < w.heap.size := fun j hj => o.1.lt j hj
theorem OwR.mono {w : World} {B B' n : Nat} {v : Value} {h : Nat → Wo2} (o : OwR w B v n h) (hb : B' ≤ B) : OwR w B' v n h := ⟨o.1.mono hb, o.2⟩
theorem OwR.below {w w' : World} {B n : Nat} {v : Value} {h : Nat → Wo2} (o : OwR w B v n h) (hb : Below w.heap.size w w') : OwR w' B v n h := o.ofBlock fun k hk => hb.block k (o.lt k hk).2
theorem OwR.touch {w w' : World} {B n : Nat} {v : Value} {h : Nat → Wo2} {P : Nat → Prop} (o : OwR w B v n h) (ht : Touch P w w') (hp : ∀ g, v.ownBlock = some g → ¬ P g) : OwR w' B v n h := o.ofBlock fun k hk => ht.block k (o.lt k hk).2 (hp k hk)
theorem OwR.empty (w : World) (h : Nat → Wo2) : OwR (w.alloc (.cells #[] 43)) w.heap.size (.slice (some ⟨w.heap.size, 0, none⟩) 0 0) 0 h := ⟨World.ownsRow_lit w #[] 0 (Nat.le_refl _) (by unfold maxLen; omega) rfl, by simp⟩
theorem run_make_woc (c : Nat) (hc : c ≤ 1048576) (w : World) :
    (Instr.makeSlice 38 (.int .i64 0) (.int .i64 (c : Int))).run Tryz.prog w = .ok (.slice (some ⟨w.heap.size, 0, none⟩) 0 c) (w.alloc (.cells (madeCells (woV 0 0).cells (c * 2)) 43)) := by
  have hinfo := infoWo
  cases hi : Tryz.prog.info? 43 with
  | none => rw [hi] at hinfo; cases hinfo
  | some i =>
    rw [hi] at hinfo
    simp only [Option.map_some, Option.some.injEq, Prod.mk.injEq] at hinfo
    obtain ⟨hz, hs, hb⟩ := hinfo
    have h := run_make (P := Tryz.prog) w 38 43 i _ Tryz.underlying38 hi hz .i64 .i64 (0 : Int) (c : Int) (by omega) (by omega) (by rw [hb]; omega) (by omega)
    rw [hs] at h
    simpa using h
theorem OwR.made (w : World) (c : Nat) (hc : c ≤ 1048576) (h : Nat → Wo2) : OwR (w.alloc (.cells (madeCells (woV 0 0).cells (c * 2)) 43)) w.heap.size (.slice (some ⟨w.heap.size, 0, none⟩) 0 c) 0 h := ⟨World.ownsRow_made (base := w.heap.size) w _ c (Nat.le_refl _) (by unfold maxLen; omega) (size_madeCells _ _), by simp⟩
theorem info_who : ∃ i, Tryz.prog.info? 43 = some i ∧ i.zero = some (woV 0 0) ∧ i.size = 2 ∧ i.bytes = 16 := by
  have hinfo := infoWo
  cases hi : Tryz.prog.info? 43 with
  | none => rw [hi] at hinfo; cases hinfo
  | some i =>
    rw [hi] at hinfo
    simp only [Option.map_some, Option.some.injEq, Prod.mk.injEq] at hinfo
    exact ⟨i, rfl, hinfo⟩
theorem cell_two_new (w : World) (a b : Value) (t : TypeId) : ∀ j u, [a, b][j]? = some u → (w.alloc (.cells #[a, b] t)).cell? ((⟨w.heap.size, 0, none⟩ : Addr).add j) = some u := by
  intro j u hj
  match j, hj with
  | 0, hj => simp at hj; subst hj; simp [Addr.add]
  | 1, hj => simp at hj; subst hj; simp [Addr.add]
  | j + 2, hj => simp at hj

/-- One place is appended to a row of one's own. -/
theorem append_who {ops : Array Oper} {rest : List Oper} {op : Oper} {act : Act} {Q : Exit → Act → World → Prop} (w : World) (hgd : op.guard = none) (s x : Operand)
    (ho : op.op = .call { callee := .builtin .append, args := #[s, x], argTypes := #[38, 38] })
    (B : Nat) (v : Value) (n : Nat) (h : Nat → Wo2) (hs : act.eval s = v) (hl : OwR w B v n h) (m z : Int) (hmz : h n = ⟨m, z⟩) (hx : act.eval x = .slice (some ⟨w.heap.size, 0, none⟩) 1 1) (hn : n ≤ 1000000) (hB : B ≤ w.heap.size)
    (hp : ∀ v' w', OwR w' B v' (n + 1) h → w.grownBy w' v.ownBlock → (∀ j, v'.ownBlock = some j → v.ownBlock = some j ∨ w.heap.size ≤ j) → wpList Tryz.prog ops Q rest (act.put op.dst v') w') :
    wpList Tryz.prog ops Q (op :: rest) act (w.alloc (.cells #[.int .i64 m, .int .i64 z] 43)) := by
  obtain ⟨i0, hi, hz0, hz1, hz2⟩ := info_who
  obtain ⟨how, hvn⟩ := hl
  have hb : Below w.heap.size w (w.alloc (.cells #[.int .i64 m, .int .i64 z] 43)) := zT _ _
  obtain ⟨v', w', h1, h2, h3, h4, h5⟩ := run_append_own_at (P := Tryz.prog) (w.alloc (.cells #[.int .i64 m, .int .i64 z] 43)) B 38 op.type 43 i0 (woV 0 0) 2 16 Tryz.underlying38 hi hz0 hz1 hz2 rfl (by decide) v n _ (how.alloc _) ⟨w.heap.size, 0, none⟩ 1 1 [.int .i64 m, .int .i64 z] rfl (cell_two_new _ _ _ _) (fun u hu => by
    simp at hu
    rcases hu with rfl | rfl <;> rfl) (by unfold maxLen; omega) (by omega) (by simp; omega)
  refine wpList_plain hgd fun K hK => ?_
  unfold Oper.wp execOp
  simp only [ho, resolve, invoke, builtin, Sem.run_bind, Sem.run_pure, Result.andThen_ok, List.map_toArray, List.map_cons, List.map_nil, hs, hx, h1]
  refine hK _ _ (hp v' w' ⟨?_, fun e => hvn (h4.1 e).1⟩ ⟨h3.os, h3.tape, h3.output, Nat.le_trans hb.size h3.size, fun j hj hne => (h3.block j (Nat.lt_of_lt_of_le hj hb.size) hne).trans (hb.block j hj)⟩ fun j hj => ?_)
  · rw [flW, hmz]
    exact h2
  · rcases h5 with a | a
    · exact .inl (a.symm.trans hj)
    · rw [hj] at a
      simp only [Option.some.injEq] at a
      right
      rw [a]
      simp

end Go.Proofs.YthdaejgmfognbaaGreatDoor

namespace Go.Proofs.YthdaejgmfognbaaGreatDoor
open Go.ChangeShapes Go.WideShapes Go.ChangeAt Go.RowKit Go.Deep Go.Sort

/-- What next answers: the least process whose next event can come, or -1 where none can. -/
def NxtL (w : World) (y : Hs) (d : Nat → Nat) (e : Ending) (w' : World) : Prop :=
  Below w.heap.size w w' ∧ ((∃ k, y.Least d k ∧ e = .returned (.int .i64 (k : Nat))) ∨ (e = .returned (.int .i64 (-1)) ∧ ∀ p, p < y.n → ¬ y.Can d p))

set_option maxRecDepth 100000 in
set_option maxHeartbeats 2000000 in
theorem next_l (X : Nat) (ha : Option Addr) (hc : Nat) (hA : Nat → Option Addr) (hC : Nat → Nat) (y : Hs) (d : Nat → Nat) (w : World) (hE : HisE w ha hA hC y) (hP : HisQ w X ha hc y d) (h4 : y.n ≤ 4) (hp : y.Peers) (hl : ∀ i, i < y.n → y.l i ≤ 200) (hd : ∀ i, d i ≤ y.l i) :
    Calls Tryz.prog 54 #[.pointer (some ⟨X, 0, none⟩)] w (NxtL w y d) := by
  have HE : Hid (HisE w ha hA hC y) := hE
  have HP : Hid (HisQ w X ha hc y d) := hP
  have HH : Hid (y.Peers ∧ (∀ i, i < y.n → y.l i ≤ 200) ∧ ∀ i, d i ≤ y.l i) := ⟨hp, hl, hd⟩
  have hn : (y.n : Int) ≤ 4 := by omega
  obtain ⟨c4, -, -, -⟩ := hP
  clear hE hp hl hd
  go_enter Tryz.func54, Tryz.ntmps54
  go_wp2_with fail
  clear c4
  go_loopw [9] (fun i wr => ∃ k : Nat, k ≤ y.n ∧ i = .int .i64 k ∧ Below w.heap.size w wr ∧ Hid (∀ j, j < k → ¬ y.Can d j)) (fun i _ => y.n - (intOf i).toNat)
  case atStart => exact ⟨0, Nat.zero_le _, rfl, Below.refl _ _, fun j hj => by omega⟩
  case round =>
    obtain ⟨k, hk, rfl, hbw, HZ⟩ := hrel
    by_cases hlt : k < y.n
    · have hlt' : (k : Int) < (y.n : Int) := by omega
      go_wp2_with fail
      refine (canPut_q X ha hc hA hC y d k wr (HE.out.below hbw) (HP.out.below hbw) h4 hlt HH.out.1 HH.out.2.1 HH.out.2.2).mono ?_
      rintro e w1 ⟨rfl, b1⟩
      have B1 : Hid (Below w.heap.size w w1) := hbw.trans (b1.mono hbw.size)
      clear b1 hbw
      by_cases hc' : y.Can d k
      · have HF : Hid (NxtL w y d (.returned (.int .i64 k)) w1) := ⟨B1.out, .inl ⟨k, ⟨hlt, hc', HZ.out⟩, rfl⟩⟩
        rw [qB_true hc']
        clear hc' B1
        go_wp2
        go_ret
        exact HF.out
      · have HZ' : Hid (∀ j, j < k + 1 → ¬ y.Can d j) := fun j hj => by
          by_cases e : j = k
          · subst e
            exact hc'
          · exact HZ.out j (by omega)
        rw [qB_false hc']
        clear hc' HZ
        go_wp2
        go_roundw
        case rel => exact ⟨k + 1, by omega, by go_num, B1.out, HZ'.out⟩
        case measure => simp [intOf]; omega
    · have HF : Hid (NxtL w y d (.returned (.int .i64 (-1))) wr) := ⟨hbw, .inr ⟨rfl, fun p hp => HZ.out p (by omega)⟩⟩
      clear HZ hbw
      go_wp2
      go_ret
      exact HF.out

/-- The turns so far, as a list. -/
def tnL (f : Nat → Nat) (n : Nat) : List Int := (List.range n).map fun i => ((f i : Nat) : Int)
theorem tnL_len (f : Nat → Nat) (n : Nat) : (tnL f n).length = n := by simp [tnL]
theorem tnL_at (f : Nat → Nat) {n i : Nat} (h : i < n) : zi (tnL f n) i = (f i : Nat) := by
  unfold zi tnL
  simp [h]
theorem tnL_succ (f : Nat → Nat) (n : Nat) : tnL f (n + 1) = tnL f n ++ [((f n : Nat) : Int)] := by simp [tnL, List.range_succ]
theorem tnD_le (f : Nat → Nat) : ∀ k p, tnD f k p ≤ k
  | 0, _ => Nat.le_refl _
  | k + 1, p => by
    have := tnD_le f k p
    rw [tnD_succ]
    by_cases e : p = f k
    · rw [e, up_same, ← e]
      omega
    · rw [up_other e]
      omega
/-- How many turns each has had, in an array. -/
structure Hd (w : World) (N : Nat) (d : Nat → Nat) : Prop where
  at4 : ∀ i, i < 4 → w.cell? ⟨N, i, none⟩ = some (.int .i64 (d i : Nat))
  fr : ∀ j, w.frozen? ⟨N, j, none⟩ = false
theorem Hd.lt {w : World} {N : Nat} {d : Nat → Nat} (h : Hd w N d) : N < w.heap.size := World.block_lt_of_cell? w _ (h.at4 0 (by omega))
theorem Hd.blk {w w' : World} {N : Nat} {d : Nat → Nat} (h : Hd w N d) (hb : w'.heap[N]? = w.heap[N]?) : Hd w' N d := ⟨fun i hi => (World.cell?_of_block hb).trans (h.at4 i hi), fun j => (World.frozen?_of_block hb).trans (h.fr j)⟩
theorem Hd.put {w : World} {N : Nat} {d : Nat → Nat} (h : Hd w N d) {p : Nat} (hp : p < 4) : Hd (w.setCell ⟨N, p, none⟩ (.int .i64 ((d p : Int) + 1))) N (up d p) := by
  refine ⟨fun i hi => ?_, fun j => by rw [World.frozen?_setCell]; exact h.fr j⟩
  by_cases e : i = p
  · subst e
    rw [World.cell?_setCell_same' _ _ _ (by rw [h.at4 i hi]; rfl), up_same]
    rfl
  · rw [World.cell?_setCell_other _ _ _ _ (by intro e9; injection e9 with _ e9; exact e e9.symm), up_other e]
    exact h.at4 i hi
theorem Hd.new (w : World) : Hd (w.alloc (.cells #[.int .i64 0, .int .i64 0, .int .i64 0, .int .i64 0] 71)) w.heap.size (fun _ => 0) := by
  refine ⟨fun i hi => ?_, fun j => yB _ _ _ _ rfl⟩
  match i, hi with
  | 0, _ => exact zW _ _ _ 0 rfl
  | 1, _ => exact zW _ _ _ 1 rfl
  | 2, _ => exact zW _ _ _ 2 rfl
  | 3, _ => exact zW _ _ _ 3 rfl
/-- Between the rounds of rowOf. -/
structure Ro (w wr : World) (f : Nat → Nat) (v : Value) (k : Nat) : Prop where
  be : Below w.heap.size w wr
  hd : Hd wr w.heap.size (tnD f k)
  ow : OwR wr (w.heap.size + 1) v k (tnH f)
theorem Ro.next {w wr w' : World} {f : Nat → Nat} {v v' : Value} {k : Nat} (h : Ro w wr f v k) (hf : f k < 4) (o : OwR w' (w.heap.size + 1) v' (k + 1) (tnH f)) (g : wr.grownBy w' v.ownBlock) : Ro w (w'.setCell ⟨w.heap.size, f k, none⟩ (.int .i64 ((tnD f k (f k) : Nat) + 1 : Int))) f v' (k + 1) := by
  have hN := h.hd.lt
  have hne : v.ownBlock ≠ some w.heap.size := fun e => by have := (h.ow.lt _ e).1; omega
  have hd' : Hd w' w.heap.size (tnD f k) := h.hd.blk (g.block _ hN fun e => hne e.symm)
  refine ⟨(h.be.trans (Below.grown (Below.refl _ _) g (by omega) fun j hj => by have := (h.ow.lt j hj).1; omega)).setCell (Nat.le_refl _) _, ?_, o.ofBlock fun j hj => ?_⟩
  · rw [tnD_succ]
    exact hd'.put hf
  · have h9 := o.lt j hj
    exact (Touch.of_set (P := fun b => b = w.heap.size) w' (a := ⟨w.heap.size, f k, none⟩) rfl _).block j h9.2 (fun e => by have e : j = w.heap.size := e; omega)

set_option maxRecDepth 100000 in
set_option maxHeartbeats 2000000 in
theorem rowOf_any (ta : Option Addr) (T tc : Nat) (f : Nat → Nat) (w : World) (hS : Sl w ta (tnL f T)) (hf : ∀ k, k < T → f k < 4) (hT : T ≤ 1000000) :
    Calls Tryz.prog 53 #[.slice ta T tc] w fun e w' => ∃ v, e = .returned v ∧ OwR w' w.heap.size v T (tnH f) ∧ Below w.heap.size w w' := by
  have HS : Hid (∀ wx, Below w.heap.size w wx → Sl wx ta (tnL f T)) := fun wx hb => hS.below hb
  have HF : Hid (∀ k, k < T → f k < 4) := hf
  have hT' : (T : Int) ≤ 1000000 := by omega
  have hmk := run_make_woc T (by omega)
  have R0 : Hid (Ro w ((w.alloc (.cells #[.int .i64 0, .int .i64 0, .int .i64 0, .int .i64 0] 71)).alloc (.cells (madeCells (woV 0 0).cells (T * 2)) 43)) f (.slice (some ⟨w.heap.size + 1, 0, none⟩) 0 T) 0) := by
    have h9 := OwR.made (w.alloc (.cells #[.int .i64 0, .int .i64 0, .int .i64 0, .int .i64 0] 71)) T (by omega) (tnH f)
    rw [World.size_alloc] at h9
    exact ⟨(zT _ _).trans ((zT _ _).mono (by simp)), (Hd.new w).blk (Below.heap_alloc _ _ _ (by simp)), h9⟩
  clear hS hf
  go_enter Tryz.func53, Tryz.ntmps53
  go_wp2_with fail
  clear hmk
  go_loopw [4, 12] (fun v i wr => ∃ (k : Nat) (g c : Nat), k ≤ T ∧ i = .int .i64 k ∧ v = .slice (some ⟨g, 0, none⟩) k c ∧ Hid (Ro w wr f v k)) (fun _ i _ => T - (intOf i).toNat)
  case atStart => exact ⟨0, _, _, Nat.zero_le _, rfl, by with_reducible rfl, R0.out⟩
  case round =>
    clear R0
    rename World => wr
    obtain ⟨k, g, c, hk, rfl, rfl, HR⟩ := hrel
    by_cases hlt : k < T
    case neg =>
      have hkT : k = T := by omega
      subst hkT
      have HE : Hid (OwR wr w.heap.size (.slice (some ⟨g, 0, none⟩) k c) k (tnH f) ∧ Below w.heap.size w wr) := ⟨HR.out.ow.mono (by omega), HR.out.be⟩
      clear HR
      go_wp2
      go_ret
      exact ⟨_, rfl, HE.out⟩
    have hlt' : (k : Int) < (T : Int) := by omega
    obtain ⟨bt, ot, rfl, -, ct⟩ := (HS.out wr HR.out.be).at (k := k) (by rw [tnL_len]; exact hlt)
    rw [tnL_at f hlt] at ct
    have hf4 : f k < 4 := HF.out k hlt
    have hf4' : (f k : Int) < 4 := by omega
    have cd := HR.out.hd.at4 (f k) hf4
    have fd := HR.out.hd.fr (f k)
    have hdk : ((tnD f k (f k) : Nat) : Int) ≤ 1000000 := by have := tnD_le f k (f k); omega
    have HB : Hid (w.heap.size + 1 ≤ wr.heap.size ∧ k ≤ 1000000) := ⟨HR.out.hd.lt, by omega⟩
    go_upto_region 7 with (at_builtin; refine append_who wr rfl _ _ rfl (w.heap.size + 1) (.slice (some ⟨g, 0, none⟩) k c) k (tnH f) rfl HR.out.ow (f k : Nat) (tnD f k (f k) : Nat) rfl rfl HB.out.2 HB.out.1 ?_; intro v' w5 o5 g5 _; obtain ⟨gg, cg, rfl, -, -, -, -⟩ := o5.form; have R5 : Hid (Ro w (w5.setCell ⟨w.heap.size, f k, none⟩ (.int .i64 ((tnD f k (f k) : Nat) + 1 : Int))) f (.slice (some ⟨gg, 0, none⟩) (k + 1) cg) (k + 1) ∧ Hd w5 w.heap.size (tnD f k)) := ⟨HR.out.next hf4 o5 g5, HR.out.hd.blk (g5.block _ HR.out.hd.lt (fun e => by have := (HR.out.ow.lt _ e.symm).1; omega))⟩; clear o5 g5)
    clear cd fd HR ct
    have cd := R5.out.2.at4 (f k) hf4
    have fd := R5.out.2.fr (f k)
    have R6 : Hid (Ro w (w5.setCell ⟨w.heap.size, f k, none⟩ (.int .i64 ((tnD f k (f k) : Nat) + 1 : Int))) f (.slice (some ⟨gg, 0, none⟩) (k + 1) cg) (k + 1)) := R5.out.1
    clear R5
    go_wp2
    go_roundw
    case rel => exact ⟨k + 1, gg, cg, by omega, by go_num, by with_reducible rfl, R6.out⟩
    case measure => simp [intOf]; omega

end Go.Proofs.YthdaejgmfognbaaGreatDoor

namespace Go.Proofs.YthdaejgmfognbaaGreatDoor
open Go.ChangeShapes Go.WideShapes Go.ChangeAt Go.RowKit Go.Deep Go.Sort

/-- One number is appended to a list of one's own: what stays. -/
theorem append_oneG {ops : Array Oper} {rest : List Oper} {op : Oper} {act : Act} {Q : Exit → Act → World → Prop} (w : World) (hgd : op.guard = none) (s x : Operand)
    (ho : op.op = .call { callee := .builtin .append, args := #[s, x], argTypes := #[30, 30] })
    (B : Nat) (v : Value) (xs : List Int) (hs : act.eval s = v) (hv : OwnI w B v xs) (y : Int) (hx : act.eval x = .slice (some ⟨w.heap.size, 0, none⟩) 1 1) (hn : xs.length ≤ 1048576) (hB : B ≤ w.heap.size)
    (h : ∀ v' w', OwnI w' B v' (xs ++ [y]) → w.grownBy w' v.ownBlock → (∀ j, v'.ownBlock = some j → v.ownBlock = some j ∨ w.heap.size ≤ j) → wpList Tryz.prog ops Q rest (act.put op.dst v') w') :
    wpList Tryz.prog ops Q (op :: rest) act (w.alloc (.cells #[.int .i64 y] 3)) := by
  have hb : Below w.heap.size w (w.alloc (.cells #[.int .i64 y] 3)) := (Below.refl _ _).alloc (Nat.le_refl _) _
  refine wpList_append_ints _ hgd s x ho B 1 v (some ⟨w.heap.size, 0, none⟩) xs [y] hs hx (hv.below hb) (.inr ⟨w.heap.size, 0, rfl, by simp, fun i hi => ?_⟩) (by simp; omega) (by simp; omega) ?_
  · have : i = 0 := by simp at hi; omega
    subst this
    exact zW _ _ _ 0 rfl
  · intro v' w' o g h5
    refine h v' w' o ⟨g.os, g.tape, g.output, Nat.le_trans hb.size g.size, fun j hj hne => (g.block j (Nat.lt_of_lt_of_le hj hb.size) hne).trans (hb.block j hj)⟩ fun j hj => ?_
    rcases h5 with a | a
    · exact .inl (a.symm.trans hj)
    · rw [hj] at a
      simp only [Option.some.injEq] at a
      right
      rw [a]
      simp

/-- Between the rounds of Row: k events are put, m turns are told. -/
structure Tw (w : World) (x : SysIn) (X : Nat) (v : Value) (k m : Nat) (wr : World) : Prop where
  pw : Pw w X x.ha x.hc x.y.hs (x.y.hs.gr k) wr
  ow : OwnI wr w.heap.size v (tnL x.y.hs.gf m)
  ne : v.ownBlock ≠ some X
  ls : ∀ j, j < k → ∃ p, x.y.hs.Least (x.y.hs.gr j) p
theorem Tw.below {w : World} {x : SysIn} {X k m : Nat} {v : Value} {wr w' : World} (h : Tw w x X v k m wr) (hb : Below wr.heap.size wr w') : Tw w x X v k m w' := ⟨h.pw.below hb, h.ow.below hb, h.ne, h.ls⟩
theorem Tw.told {w : World} {x : SysIn} {X k p : Nat} {v v' : Value} {wr w' : World} (h : Tw w x X v k k wr) (hp : x.y.hs.Least (x.y.hs.gr k) p) (o : OwnI w' w.heap.size v' (tnL x.y.hs.gf k ++ [((p : Nat) : Int)])) (g : wr.grownBy w' v.ownBlock) (hv : ∀ j, v'.ownBlock = some j → v.ownBlock = some j ∨ wr.heap.size ≤ j) : Tw w x X v' k (k + 1) w' := by
  have hX := h.pw.hq.lt
  refine ⟨⟨h.pw.be.trans (Below.grown (Below.refl _ _) g h.pw.be.size fun j hj => (h.ow.lt j hj).1), h.pw.hq.blk (g.block _ hX fun e => h.ne e.symm)⟩, ?_, fun e => ?_, h.ls⟩
  · rw [tnL_succ, (Hs.gr_next hp).2]
    exact o
  · rcases hv _ e with a | a
    · exact h.ne a
    · omega
theorem Tw.put {w : World} {x : SysIn} {X k p : Nat} {v : Value} {wr w' : World} (h : Tw w x X v k (k + 1) wr) (hX : w.heap.size ≤ X) (hp : x.y.hs.Least (x.y.hs.gr k) p) (hq : HisQ w' X x.ha x.hc x.y.hs (up (x.y.hs.gr k) p)) (t : Touch (fun b => b = X) wr w') : Tw w x X v (k + 1) (k + 1) w' := by
  refine ⟨?_, h.ow.blk fun j hj => t.block j (h.ow.lt j hj).2 fun e => h.ne (by rw [hj, show j = X from e]), h.ne, fun j hj => ?_⟩
  · rw [(Hs.gr_next hp).1]
    exact h.pw.turn hX t hq
  · by_cases e : j = k
    · subst e
      exact ⟨p, hp⟩
    · exact h.ls j (by omega)
/-- What next has told. -/
def NxZ (x : SysIn) (k : Nat) (z : Int) : Prop := (∃ p : Nat, x.y.hs.Least (x.y.hs.gr k) p ∧ z = (p : Nat)) ∨ (z = -1 ∧ ∀ p, p < x.y.hs.n → ¬ x.y.hs.Can (x.y.hs.gr k) p)

set_option maxRecDepth 100000 in
set_option maxHeartbeats 2000000 in
theorem implRow_any (x : SysIn) (w : World) (hG : SysG w x) (hL : x.Len) (hV : w.cell? ⟨0, 0, none⟩ = some (.iface 266 (.agg #[.pointer (some ⟨1, 211, none⟩)]))) :
    Calls Tryz.prog 18 #[x.v] w fun e w' => ∃ v, e = .returned v ∧ OwR w' w.heap.size v (rwN x.y) (rwH x.y) ∧ Below w.heap.size w w' := by
  have HSo : Hid (∀ wx, Below w.heap.size w wx → Calls Tryz.prog 52 #[x.v] wx fun e w' => e = .returned (.bool x.y.okB) ∧ Below wx.heap.size wx w') := fun wx hb => implSysOk_any x wx (hG.below hb) hL ((hb.cell (World.block_lt_of_cell? w _ hV)).trans hV)
  have HE : Hid (x.y.Ok → ∀ wx, Below w.heap.size w wx → HisE wx x.ha x.hA x.hC x.y.hs) := fun hO wx hb => (hG.below hb).his hO.cn.2.2.1
  have B0 : Hid (Below w.heap.size w (w.alloc (.cells #[.slice x.pa x.pn x.pc, .slice x.sa x.sn x.sc, .slice x.wa x.wn x.wc, .slice x.ha x.hn x.hc] 29))) := zT _ _
  have X0 : Hid (BoxC (w.alloc (.cells #[.slice x.pa x.pn x.pc, .slice x.sa x.sn x.sc, .slice x.wa x.wn x.wc, .slice x.ha x.hn x.hc] 29)) w.heap.size (.slice x.pa x.pn x.pc) (.slice x.sa x.sn x.sc) (.slice x.wa x.wn x.wc) (.slice x.ha x.hn x.hc)) := BoxC.new w _ _ _ _ _
  clear hG hL hV
  go_enter Tryz.func18, Tryz.ntmps18
  go_wp2_with fail
  generalize w.alloc (.cells #[.slice x.pa x.pn x.pc, .slice x.sa x.sn x.sc, .slice x.wa x.wn x.wc, .slice x.ha x.hn x.hc] 29) = W0 at *
  refine (HSo.out W0 B0.out).mono ?_
  rintro e W1 ⟨rfl, b2⟩
  have B2 : Hid (Below w.heap.size w W1 ∧ BoxC W1 w.heap.size (.slice x.pa x.pn x.pc) (.slice x.sa x.sn x.sc) (.slice x.wa x.wn x.wc) (.slice x.ha x.hn x.hc)) := ⟨B0.out.trans (b2.mono B0.out.size), X0.out.below b2⟩
  clear b2 B0 X0 HSo
  by_cases hok : x.y.okB = true
  case neg =>
    have hok' : x.y.okB = false := by simpa using hok
    have HN : Hid (rwN x.y = 0) := if_neg hok
    rw [hok']
    go_wp2_with fail
    refine (rowOf_any none 0 0 x.y.hs.gf W1 (.inl rfl) (fun k hk => absurd hk (Nat.not_lt_zero _)) (by omega)).mono ?_
    rintro e w4 ⟨v, rfl, o4, b4⟩
    obtain ⟨g, c, rfl, -, -, -, -⟩ := o4.form
    have R4 : Hid (OwR w4 w.heap.size (.slice (some ⟨g, 0, none⟩) 0 c) (rwN x.y) (rwH x.y) ∧ Below w.heap.size w w4) := ⟨by rw [HN.out]; exact o4.mono B2.out.1.size, B2.out.1.trans (b4.mono B2.out.1.size)⟩
    clear o4 b4 B2 HN
    go_wp2
    go_ret
    exact ⟨_, rfl, R4.out⟩
  rw [hok]
  have HO : Hid (x.y.Ok) := Sy.ok_of hok
  have HRN : Hid (rwN x.y = x.y.hs.tot) := if_pos hok
  have h4 : x.y.hs.n ≤ 4 := HO.out.cn.1.2
  have HP : Hid (x.y.hs.Peers ∧ (∀ i, i < x.y.hs.n → x.y.hs.l i ≤ 200)) := ⟨fun p hp i hi => HO.out.evq hp hi, fun i hi => HO.out.hl200 hi⟩
  have hto : x.y.hs.tot ≤ 800 := Hs.tot_le h4 HP.out.2
  have V2 : Hid (OwnI (W1.alloc (.cells #[] 3)) W1.heap.size (.slice (some ⟨W1.heap.size, 0, none⟩) 0 0) []) := own_empty W1
  have B3 : Hid (Below w.heap.size w (W1.alloc (.cells #[] 3)) ∧ BoxC (W1.alloc (.cells #[] 3)) w.heap.size (.slice x.pa x.pn x.pc) (.slice x.sa x.sn x.sc) (.slice x.wa x.wn x.wc) (.slice x.ha x.hn x.hc) ∧ w.heap.size ≤ W1.heap.size ∧ W1.heap.size < (W1.alloc (.cells #[] 3)).heap.size) := ⟨B2.out.1.trans ((zT _ _).mono B2.out.1.size), B2.out.2.below (zT _ _), B2.out.1.size, by simp⟩
  go_upto_region 4 with fail
  generalize W1.alloc (.cells #[] 3) = W2 at *
  generalize W1.heap.size = N1 at *
  clear B2
  have hl := hisZ_len x.ha x.hn x.hc
  have ho := hisZ_one x.ha x.hn x.hc
  generalize hcs : hisZ x.ha x.hn x.hc = cs at *
  have HC : Hid (hisZ x.ha x.hn x.hc = cs) := hcs
  have HI : Hid ((Tryz.prog.info? 74).map (·.size) = some cs.length) := by
    show _ = _
    rw [hl]; exact infoHz
  have HOne : Hid (cs.toArray.all (·.oneCell') = true) := all_oneCell_toArray ho
  have HT : Hid ((W2.alloc (.cells #[.slice none 0 0, .int .i64 0, .int .i64 0, .int .i64 0, .int .i64 0, .int .i64 0, .int .i64 0, .int .i64 0, .int .i64 0, .int .i64 0, .int .i64 0, .int .i64 0, .int .i64 0, .int .i64 0, .int .i64 0, .int .i64 0, .int .i64 0, .int .i64 0, .int .i64 0, .int .i64 0, .int .i64 0] 74)).there W2.heap.size 0 cs.toArray.size) := there_new _ _ _ _ _ (by have h9 : cs.toArray.size = 21 := hl; rw [h9]; rfl) rfl
  have T0 : Hid (Tw w x W2.heap.size (.slice (some ⟨N1, 0, none⟩) 0 0) 0 0 ((W2.alloc (.cells #[.slice none 0 0, .int .i64 0, .int .i64 0, .int .i64 0, .int .i64 0, .int .i64 0, .int .i64 0, .int .i64 0, .int .i64 0, .int .i64 0, .int .i64 0, .int .i64 0, .int .i64 0, .int .i64 0, .int .i64 0, .int .i64 0, .int .i64 0, .int .i64 0, .int .i64 0, .int .i64 0, .int .i64 0] 74)).setCells W2.heap.size 0 cs)) := by
    obtain ⟨n1, n2⟩ := his_new x W2 HO.out.cn.2.2.1 cs hcs
    exact ⟨⟨B3.out.1.trans (n2.mono B3.out.1.size), n1⟩, (V2.out.mono B3.out.2.2.1).below n2, fun e => by have h9 := B3.out.2.2.2; have e9 : N1 = W2.heap.size := (by cases e; rfl); omega, fun j hj => absurd hj (Nat.not_lt_zero _)⟩
  have HX : Hid (w.heap.size ≤ W2.heap.size) := B3.out.1.size
  obtain ⟨s0, s1, s2, s3⟩ := B3.out.2.1
  clear hok hl ho hcs
  go_upto_region 5 with (refine wpList_store_mid rfl 74 (.tmp 4) (.tmp 13) rfl W2.heap.size 0 cs.toArray rfl (by rw [← HC.out]; rfl) HT.out (by simpa using HI.out) HOne.out ?_)
  clear s0 s1 s2 s3 HT HC HI HOne V2 B3
  generalize (W2.alloc (.cells #[.slice none 0 0, .int .i64 0, .int .i64 0, .int .i64 0, .int .i64 0, .int .i64 0, .int .i64 0, .int .i64 0, .int .i64 0, .int .i64 0, .int .i64 0, .int .i64 0, .int .i64 0, .int .i64 0, .int .i64 0, .int .i64 0, .int .i64 0, .int .i64 0, .int .i64 0, .int .i64 0, .int .i64 0] 74)).setCells W2.heap.size 0 cs = W3 at *
  generalize W2.heap.size = X at *
  clear W2
  have HNx : Hid (∀ v k m wx, Tw w x X v k m wx → Calls Tryz.prog 54 #[.pointer (some ⟨X, 0, none⟩)] wx fun e w' => ∃ z : Int, e = .returned (.int .i64 z) ∧ Tw w x X v k m w' ∧ NxZ x k z) := fun v k m wx h => by
    refine (next_l X x.ha x.hc x.hA x.hC x.y.hs (x.y.hs.gr k) wx (HE.out HO.out wx h.pw.be) h.pw.hq h4 HP.out.1 HP.out.2 (Hs.gr_sum h.ls).2.le).mono ?_
    rintro e w1 ⟨q1, hor⟩
    rcases hor with ⟨p, hp, rfl⟩ | ⟨rfl, hn⟩
    · exact ⟨_, rfl, h.below q1, .inl ⟨p, hp, rfl⟩⟩
    · exact ⟨_, rfl, h.below q1, .inr ⟨rfl, hn⟩⟩
  go_wp2_with fail
  refine (HNx.out _ 0 0 W3 T0.out).mono ?_
  rintro e w4 ⟨z, rfl, t4, nz⟩
  have T4 : Hid (Tw w x X (.slice (some ⟨N1, 0, none⟩) 0 0) 0 0 w4) := t4
  have NZ : Hid (NxZ x 0 z) := nz
  clear t4 nz T0
  go_wp2_with fail
  go_loopg [3, 5] x.y.hs.tot (fun g v i wr => ∃ (k : Nat) (z : Int) (ga : Option Addr) (gc : Nat), g = x.y.hs.tot - k ∧ v = .slice ga k gc ∧ i = .int .i64 z ∧ Hid (Tw w x X (.slice ga k gc) k k wr) ∧ Hid (NxZ x k z))
  case atStart => exact ⟨0, z, _, _, by omega, by with_reducible rfl, rfl, T4.out, NZ.out⟩
  case round =>
    clear T4 NZ
    obtain ⟨k, zz, ga, gc, hgk, rfl, rfl, HT, HZ⟩ := hrel
    have HGk : Hid (gk = x.y.hs.tot - k) := hgk
    clear hgk
    have HKt : Hid (k ≤ x.y.hs.tot) := Hs.gr_le HT.out.ls
    rcases HZ.out with ⟨p, hp, rfl⟩ | ⟨rfl, hst⟩
    case inr =>
      have HKe : Hid (k = x.y.hs.tot) := Hs.gr_end HT.out.ls HP.out.1 HO.out.ro hst
      have HF4 : Hid (∀ j, j < k → x.y.hs.gf j < 4) := fun j hj => by
        obtain ⟨p, hp⟩ := HT.out.ls j hj
        rw [(Hs.gr_next hp).2]
        have := hp.1
        omega
      clear hst HZ HGk HNx
      go_wp2_with fail
      refine (rowOf_any ga k gc x.y.hs.gf _ HT.out.ow.slOf HF4.out (by have := HKt.out; omega)).mono ?_
      rintro e w5 ⟨v, rfl, o5, b5⟩
      obtain ⟨g, c, rfl, -, -, -, -⟩ := o5.form
      have R5 : Hid (OwR w5 w.heap.size (.slice (some ⟨g, 0, none⟩) k c) (rwN x.y) (rwH x.y) ∧ Below w.heap.size w w5) := ⟨by rw [HRN.out, ← HKe.out]; exact o5.mono HT.out.pw.be.size, HT.out.pw.be.trans (b5.mono HT.out.pw.be.size)⟩
      clear o5 b5 HT HKe HF4 HKt HRN
      go_wp2
      go_ret
      exact ⟨_, rfl, R5.out⟩
    have HLe : Hid (x.y.hs.Least (x.y.hs.gr k) p) := hp
    have hz : ¬ (p : Int) = -1 := by omega
    have hz' : ((p : Int) != -1) = true := by simp
    have HKl : Hid ((tnL x.y.hs.gf k).length ≤ 1048576 ∧ w.heap.size ≤ wr.heap.size) := ⟨by rw [tnL_len]; have := HKt.out; omega, HT.out.pw.be.size⟩
    clear hp HZ
    go_upto_region 9 with (at_builtin; refine append_oneG wr rfl _ _ rfl w.heap.size (.slice ga k gc) (tnL x.y.hs.gf k) rfl HT.out.ow (p : Nat) rfl HKl.out.1 HKl.out.2 ?_; intro v' w5 o5 g5 h5; have T5 : Hid (Tw w x X v' k (k + 1) w5) := HT.out.told HLe.out o5 g5 h5; obtain ⟨ga5, gc5, e5, -⟩ := T5.out.ow.form; rw [tnL_len] at e5; subst e5; clear o5 g5 h5)
    clear HT HKl
    go_wp2_with fail
    refine (putOne_q X x.ha x.hc x.hA x.hC x.y.hs (x.y.hs.gr k) p w5 (HE.out HO.out w5 T5.out.pw.be) T5.out.pw.hq h4 HLe.out.1 HP.out.1 HP.out.2 (Hs.gr_sum T5.out.ls).2.le HLe.out.2.1.1).mono ?_
    rintro e w6 ⟨rfl, q6, t6⟩
    have T6 : Hid (Tw w x X (.slice ga5 (k + 1) gc5) (k + 1) (k + 1) w6) := T5.out.put HX.out HLe.out q6 t6
    clear q6 t6 T5 HLe
    go_wp2_with fail
    refine (HNx.out _ (k + 1) (k + 1) w6 T6.out).mono ?_
    rintro e w7 ⟨z7, rfl, t7, nz7⟩
    have T7 : Hid (Tw w x X (.slice ga5 (k + 1) gc5) (k + 1) (k + 1) w7) := t7
    have NZ7 : Hid (NxZ x (k + 1) z7) := nz7
    have HK7 : Hid (k + 1 ≤ x.y.hs.tot) := Hs.gr_le t7.ls
    clear t7 nz7 T6
    go_wp2
    go_roundg (x.y.hs.tot - (k + 1))
    case measure => have := HGk.out; have := HK7.out; omega
    case rel => exact ⟨k + 1, z7, ga5, gc5, rfl, by with_reducible rfl, rfl, T7.out, NZ7.out⟩

end Go.Proofs.YthdaejgmfognbaaGreatDoor

namespace Go.Proofs.YthdaejgmfognbaaGreatDoor
open Go.ChangeShapes Go.WideShapes Go.ChangeAt Go.RowKit Go.Deep Go.Sort

/-- Between the rounds of the model's Row: k places are told, m events are done. -/
structure Rm (w : World) (x : SysIn) (g : Nat) (v : Value) (k m : Nat) (wr : World) : Prop where
  rk : Rk w x g (x.y.hs.gr k) wr
  ow : OwR wr (w.heap.size + 1) v m (rwH x.y)
  ne : v.ownBlock ≠ some g
  ls : ∀ j, j < k → ∃ p, x.y.hs.Least (x.y.hs.gr j) p
theorem Rm.below {w : World} {x : SysIn} {g k m : Nat} {v : Value} {wr w' : World} (h : Rm w x g v k m wr) (hb : Below wr.heap.size wr w') : Rm w x g v k m w' := ⟨h.rk.below hb, h.ow.below hb, h.ne, h.ls⟩
theorem rwH_at {y : Sy} {k p : Nat} (h : y.hs.Least (y.hs.gr k) p) : rwH y k = ⟨(p : Nat), (y.hs.gr k p : Nat)⟩ := by
  show tnH y.hs.gf k = _
  unfold tnH
  rw [(Hs.gr_next h).2, Hs.gr_tn]
theorem Rm.told {w : World} {x : SysIn} {g k : Nat} {v v' : Value} {wr w' : World} (h : Rm w x g v k k wr) (o : OwR w' (w.heap.size + 1) v' (k + 1) (rwH x.y)) (gb : wr.grownBy w' v.ownBlock) (hv : ∀ j, v'.ownBlock = some j → v.ownBlock = some j ∨ wr.heap.size ≤ j) : Rm w x g v' k (k + 1) w' := by
  have hg := h.rk.lt
  have hs : w.heap.size < wr.heap.size := by omega
  refine ⟨⟨h.rk.be.trans (Below.grown (Below.refl _ _) gb h.rk.be.size fun j hj => by have := (h.ow.lt j hj).1; omega), h.rk.bs.blkK (gb.block _ hs fun e => by have := (h.ow.lt _ e.symm).1; omega), ?_⟩, o, fun e => ?_, h.ls⟩
  · exact h.rk.ow.blk fun j hj => by
      have hj' : g = j := by cases hj; rfl
      subst hj'
      exact gb.block _ hg.2 fun e => h.ne e.symm
  · rcases hv _ e with a | a
    · exact h.ne a
    · omega
theorem Rm.put {w : World} {x : SysIn} {g k p : Nat} {v : Value} {wr : World} (h : Rm w x g v k (k + 1) wr) (hp : x.y.hs.Least (x.y.hs.gr k) p) (hpn : p < x.pn) : Rm w x g v (k + 1) (k + 1) (wr.setCell ⟨g, p, none⟩ (.int .i64 ((x.y.hs.gr k p : Int) + 1))) := by
  refine ⟨?_, h.ow.ofBlock fun j hj => ?_, h.ne, fun j hj => ?_⟩
  · rw [(Hs.gr_next hp).1]
    exact h.rk.put hpn
  · exact (Touch.of_set (P := fun b => b = g) wr (a := ⟨g, p, none⟩) rfl _).block j (h.ow.lt j hj).2 (fun e => h.ne (by rw [hj, show j = g from e]))
  · by_cases e : j = k
    · subst e
      exact ⟨p, hp⟩
    · exact h.ls j (by omega)

set_option maxRecDepth 100000 in
set_option maxHeartbeats 4000000 in
theorem specRow_any (x : SysIn) (w : World) (hG : SysG w x) (hL : x.Len) (hcap : ∀ i, i < x.hn → x.hL i ≤ x.hC i) :
    Calls Tryz.prog 19 #[x.v] w fun e w' => ∃ v, e = .returned v ∧ OwR w' w.heap.size v (rwN x.y) (rwH x.y) ∧ Below w.heap.size w w' := by
  have HSo : Hid (∀ wx, Below w.heap.size w wx → Calls Tryz.prog 20 #[x.v] wx fun e w' => e = .returned (.bool x.y.okB) ∧ Below wx.heap.size wx w') := fun wx hb => specSysOk_any x wx (hG.below hb) hL hcap
  have HCn : Hid (x.y.Ok → ∀ g p d wr, Rk w x g d wr → (∀ i, d i ≤ x.y.hL i) → p < x.pn → Calls Tryz.prog 56 #[x.v, .slice (some ⟨g, 0, none⟩) x.pn x.pn, .int .i64 (p : Nat)] wr fun e w' => e = .returned (.bool (qB (x.y.hs.Can d p))) ∧ Below wr.heap.size wr w') := fun hO g p d wr hr hd hp => l13Can_any x g x.pn p d wr (hG.below hr.be) hcap hO hr.ow.slOf hd hp
  have B0 : Hid (Below w.heap.size w ((w.alloc (.cells #[.slice x.pa x.pn x.pc, .slice x.sa x.sn x.sc, .slice x.wa x.wn x.wc, .slice x.ha x.hn x.hc] 29)).alloc (.cells #[] 43)) ∧ BoxC ((w.alloc (.cells #[.slice x.pa x.pn x.pc, .slice x.sa x.sn x.sc, .slice x.wa x.wn x.wc, .slice x.ha x.hn x.hc] 29)).alloc (.cells #[] 43)) w.heap.size (.slice x.pa x.pn x.pc) (.slice x.sa x.sn x.sc) (.slice x.wa x.wn x.wc) (.slice x.ha x.hn x.hc) ∧ OwR ((w.alloc (.cells #[.slice x.pa x.pn x.pc, .slice x.sa x.sn x.sc, .slice x.wa x.wn x.wc, .slice x.ha x.hn x.hc] 29)).alloc (.cells #[] 43)) (w.heap.size + 1) (.slice (some ⟨w.heap.size + 1, 0, none⟩) 0 0) 0 (rwH x.y)) := by
    refine ⟨(zT _ _).trans ((zT _ _).mono (by simp)), (BoxC.new w _ _ _ _ _).below (zT _ _), ?_⟩
    have h9 := OwR.empty (w.alloc (.cells #[.slice x.pa x.pn x.pc, .slice x.sa x.sn x.sc, .slice x.wa x.wn x.wc, .slice x.ha x.hn x.hc] 29)) (rwH x.y)
    rw [World.size_alloc] at h9
    exact h9
  clear hG hL hcap
  go_enter Tryz.func19, Tryz.ntmps19
  go_upto_region 2 with fail
  generalize (w.alloc (.cells #[.slice x.pa x.pn x.pc, .slice x.sa x.sn x.sc, .slice x.wa x.wn x.wc, .slice x.ha x.hn x.hc] 29)).alloc (.cells #[] 43) = W0 at *
  obtain ⟨k0, k1, k2, k3⟩ := B0.out.2.1
  go_wp2_with fail
  clear k0 k1 k2 k3
  refine (HSo.out W0 B0.out.1).mono ?_
  rintro e w2 ⟨rfl, b2⟩
  have B2 : Hid (Below w.heap.size w w2 ∧ BoxC w2 w.heap.size (.slice x.pa x.pn x.pc) (.slice x.sa x.sn x.sc) (.slice x.wa x.wn x.wc) (.slice x.ha x.hn x.hc) ∧ OwR w2 (w.heap.size + 1) (.slice (some ⟨w.heap.size + 1, 0, none⟩) 0 0) 0 (rwH x.y)) := ⟨B0.out.1.trans (b2.mono B0.out.1.size), B0.out.2.1.below b2, B0.out.2.2.below b2⟩
  clear b2 B0 HSo
  by_cases hok : x.y.okB = true
  case neg =>
    have hok' : x.y.okB = false := by simpa using hok
    have HN : Hid (rwN x.y = 0) := if_neg hok
    rw [hok']
    have R4 : Hid (OwR w2 w.heap.size (.slice (some ⟨w.heap.size + 1, 0, none⟩) 0 0) (rwN x.y) (rwH x.y) ∧ Below w.heap.size w w2) := ⟨by rw [HN.out]; exact B2.out.2.2.mono (by omega), B2.out.1⟩
    clear B2 HN
    go_wp2
    go_ret
    exact ⟨_, rfl, R4.out⟩
  rw [hok]
  have HO : Hid (x.y.Ok) := Sy.ok_of hok
  have HRN : Hid (rwN x.y = x.y.hs.tot) := if_pos hok
  have hhn : x.hn = x.pn := HO.out.cn.2.2.1
  have H4 : Hid (x.pn ≤ 4 ∧ 1 ≤ x.pn) := ⟨HO.out.cn.1.2, HO.out.cn.1.1⟩
  have h4 : (x.pn : Int) ≤ 4 := by have := H4.out.1; omega
  have HP : Hid (x.y.hs.Peers ∧ (∀ i, i < x.y.hs.n → x.y.hs.l i ≤ 200)) := ⟨fun p hp i hi => HO.out.evq hp hi, fun i hi => HO.out.hl200 hi⟩
  have hto : x.y.hs.tot ≤ 800 := Hs.tot_le H4.out.1 HP.out.2
  have hmk := run_make_int x.pn (by have := H4.out.1; omega)
  have T0 : Hid (Rm w x w2.heap.size (.slice (some ⟨w.heap.size + 1, 0, none⟩) 0 0) 0 0 (w2.alloc (.cells (madeCells #[.int .i64 0] x.pn) 3))) := by
    have h9 := made_own w2 x.pn (by have := H4.out.1; omega)
    rw [← dL_zero] at h9
    refine ⟨⟨B2.out.1.trans ((zT _ _).mono B2.out.1.size), B2.out.2.1.below (zT _ _), h9.mono (World.block_lt_of_cell? _ _ B2.out.2.1.1)⟩, B2.out.2.2.below (zT _ _), fun e => ?_, fun j hj => absurd hj (Nat.not_lt_zero _)⟩
    have h8 : w.heap.size + 1 < w2.heap.size := (B2.out.2.2.lt _ rfl).2
    have e9 : w.heap.size + 1 = w2.heap.size := by simpa [Value.ownBlock] using e
    omega
  obtain ⟨-, -, -, k3⟩ := B2.out.2.1
  rw [hhn] at k3
  clear hok hhn
  go_upto_region 5 with fail
  clear k3 hmk B2
  generalize w2.alloc (.cells (madeCells #[.int .i64 0] x.pn) 3) = w3 at *
  generalize w2.heap.size = g at *
  go_wp2_with fail
  go_loopg [3, 5] (x.y.hs.tot * 5 + x.pn) (fun gh v i wr => ∃ (k p : Nat) (ga : Nat) (gc : Nat), gh = (x.y.hs.tot - k) * 5 + (x.pn - p) ∧ p ≤ x.pn ∧ v = .slice (some ⟨ga, 0, none⟩) k gc ∧ i = .int .i64 (p : Nat) ∧ Hid (Rm w x g (.slice (some ⟨ga, 0, none⟩) k gc) k k wr ∧ ∀ j, j < p → ¬ x.y.hs.Can (x.y.hs.gr k) j))
  case atStart => exact ⟨0, 0, _, _, by omega, Nat.zero_le _, by with_reducible rfl, rfl, T0.out, fun j hj => absurd hj (Nat.not_lt_zero _)⟩
  case round =>
    clear T0
    obtain ⟨k, p, ga, gc, hgk, hpl, rfl, rfl, HT⟩ := hrel
    have HGk : Hid (gk = (x.y.hs.tot - k) * 5 + (x.pn - p)) := hgk
    clear hgk
    have HKt : Hid (k ≤ x.y.hs.tot) := Hs.gr_le HT.out.1.ls
    by_cases hpt : p < x.pn
    case neg =>
      have HKe : Hid (k = x.y.hs.tot) := Hs.gr_end HT.out.1.ls HP.out.1 HO.out.ro fun q hq => HT.out.2 q (by have hq : q < x.pn := hq; omega)
      have R5 : Hid (OwR wr w.heap.size (.slice (some ⟨ga, 0, none⟩) k gc) (rwN x.y) (rwH x.y) ∧ Below w.heap.size w wr) := ⟨by rw [HRN.out, ← HKe.out]; exact HT.out.1.ow.mono (by omega), HT.out.1.rk.be⟩
      clear HT HKe HKt HRN HGk
      go_wp2
      go_ret
      exact ⟨_, rfl, R5.out⟩
    have hpt' : (p : Int) < (x.pn : Int) := by omega
    obtain ⟨k0, k1, k2, k3⟩ := HT.out.1.rk.bs
    go_wp2_with fail
    clear k0 k1 k2 k3
    refine (HCn.out HO.out g p _ _ HT.out.1.rk (Hs.gr_sum HT.out.1.ls).2.le hpt).mono ?_
    rintro e w5 ⟨rfl, b5⟩
    have T5 : Hid (Rm w x g (.slice (some ⟨ga, 0, none⟩) k gc) k k w5 ∧ ∀ j, j < p → ¬ x.y.hs.Can (x.y.hs.gr k) j) := ⟨HT.out.1.below b5, HT.out.2⟩
    clear b5 HT
    by_cases hcn : x.y.hs.Can (x.y.hs.gr k) p
    case neg =>
      rw [qB_false hcn]
      have T6 : Hid (Rm w x g (.slice (some ⟨ga, 0, none⟩) k gc) k k w5 ∧ ∀ j, j < p + 1 → ¬ x.y.hs.Can (x.y.hs.gr k) j) := ⟨T5.out.1, fun j hj => by
        by_cases e : j = p
        · subst e
          exact hcn
        · exact T5.out.2 j (by omega)⟩
      clear hcn T5
      go_wp2
      go_roundg ((x.y.hs.tot - k) * 5 + (x.pn - (p + 1)))
      case measure => have := HGk.out; omega
      case rel => exact ⟨k, p + 1, ga, gc, rfl, by omega, by with_reducible rfl, by go_num, T6.out⟩
    rw [qB_true hcn]
    have HLe : Hid (x.y.hs.Least (x.y.hs.gr k) p) := ⟨hpt, hcn, T5.out.2⟩
    have HB : Hid (w.heap.size + 1 ≤ w5.heap.size ∧ k ≤ 1000000) := ⟨by have := T5.out.1.rk.lt; omega, by have := HKt.out; omega⟩
    have hdk : ((x.y.hs.gr k p : Nat) : Int) ≤ 200 := by
      have h8 := (Hs.gr_sum T5.out.1.ls).2.le p
      have h9 := HP.out.2 p hpt
      omega
    have sd := (T5.out.1.rk.cell hpt).1
    clear hcn
    go_upto_region 10 with (at_builtin; refine append_who w5 rfl _ _ rfl (w.heap.size + 1) (.slice (some ⟨ga, 0, none⟩) k gc) k (rwH x.y) rfl T5.out.1.ow (p : Nat) (x.y.hs.gr k p : Nat) (rwH_at HLe.out) rfl HB.out.2 HB.out.1 ?_; intro v' w6 o6 g6 h6; have T6 : Hid (Rm w x g v' k (k + 1) w6) := T5.out.1.told o6 g6 h6; obtain ⟨ga6, gc6, rfl, -, -, -, -⟩ := o6.form; clear o6 g6 h6)
    clear sd T5 HB
    obtain ⟨sd, sf⟩ := T6.out.rk.cell hpt
    have T7 : Hid (Rm w x g (.slice (some ⟨ga6, 0, none⟩) (k + 1) gc6) (k + 1) (k + 1) (w6.setCell ⟨g, p, none⟩ (.int .i64 ((x.y.hs.gr k p : Int) + 1))) ∧ k + 1 ≤ x.y.hs.tot) := by
      have h9 := T6.out.put HLe.out hpt
      exact ⟨h9, Hs.gr_le h9.ls⟩
    clear T6 HLe
    go_wp2
    go_roundg ((x.y.hs.tot - (k + 1)) * 5 + x.pn)
    case measure => have := HGk.out; have := T7.out.2; have := H4.out; omega
    case rel => exact ⟨k + 1, 0, ga6, gc6, by omega, Nat.zero_le _, by with_reducible rfl, rfl, T7.out.1, fun j hj => absurd hj (Nat.not_lt_zero _)⟩

end Go.Proofs.YthdaejgmfognbaaGreatDoor

namespace Go.Proofs.YthdaejgmfognbaaGreatDoor
open Go.RowKit

theorem Hs.least_of {y : Hs} {d : Nat → Nat} : ∀ (p : Nat), p < y.n → y.Can d p → ∃ q, y.Least d q
  | p, hp, hc => by
    by_cases h : ∃ j, j < p ∧ y.Can d j
    · obtain ⟨j, hj, hcj⟩ := h
      exact Hs.least_of j (by omega) hcj
    · exact ⟨p, hp, hc, fun j hj hcj => h ⟨j, hj, hcj⟩⟩
theorem Hs.gr_all {y : Hs} (hp : y.Peers) (hr : y.Row) : ∀ k, k ≤ y.tot → ∀ j, j < k → ∃ p, y.Least (y.gr j) p
  | 0, _, j, hj => by omega
  | k + 1, hk, j, hj => by
    have ih := Hs.gr_all hp hr k (by omega)
    by_cases e : j = k
    · subst e
      by_cases h : ∃ p, p < y.n ∧ y.Can (y.gr j) p
      · obtain ⟨p, h1, h2⟩ := h
        exact Hs.least_of p h1 h2
      · have := Hs.gr_end ih hp hr fun p h1 h2 => h ⟨p, h1, h2⟩
        omega
    · exact ih j (by omega)
theorem rwF_rwH (y : Sy) : rwF (rwH y) = y.hs.gf := by
  funext k
  show ((y.hs.gf k : Nat) : Int).toNat = _
  exact Int.toNat_natCast _
theorem rwH_ok {y : Sy} (hO : y.Ok) : y.hs.RwOk (rwH y) y.hs.tot := by
  have hp : y.hs.Peers := fun p hp i hi => hO.evq hp hi
  have hall := Hs.gr_all hp hO.ro y.hs.tot (Nat.le_refl _)
  have hput := Hs.gr_sum hall
  refine ⟨fun k hk => ?_, fun p hp => ?_⟩
  · obtain ⟨p, h⟩ := hall k hk
    refine ⟨p, h.1, ?_, ?_, ?_⟩
    · show ((y.hs.gf k : Nat) : Int) = _
      rw [(Hs.gr_next h).2]
    · rw [rwF_rwH]
      show ((tnD y.hs.gf k (y.hs.gf k) : Nat) : Int) = _
      rw [(Hs.gr_next h).2]
    · rw [rwF_rwH, Hs.gr_tn]
      exact h.2.1
  · rw [rwF_rwH, Hs.gr_tn]
    have h1 := hput.2.le
    have h2 := hput.1
    have key : ∀ n, sumL (y.hs.gr y.hs.tot) n = sumL y.hs.l n → ∀ i, i < n → y.hs.gr y.hs.tot i = y.hs.l i := by
      intro n
      induction n with
      | zero => exact fun _ i hi => by omega
      | succ n ih =>
        intro he i hi
        have h3 := sumL_le h1 n
        have h4 := h1 n
        have he : sumL (y.hs.gr y.hs.tot) n + y.hs.gr y.hs.tot n = sumL y.hs.l n + y.hs.l n := he
        by_cases e : i = n
        · subst e
          omega
        · exact ih (by omega) i (by omega)
    exact key y.hs.n h2 p hp
theorem rwB_row {y : Sy} (h : y.okB = true) : rwB y (rwH y) (rwN y) = true := by
  have hO := Sy.ok_of h
  rw [rwB_yes h, show rwN y = y.hs.tot from if_pos h, qB_true (rwH_ok hO)]

end Go.Proofs.YthdaejgmfognbaaGreatDoor
