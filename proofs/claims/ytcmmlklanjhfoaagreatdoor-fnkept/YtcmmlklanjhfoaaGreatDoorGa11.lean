/- The walks of the draw's cursor: l1Byte, l1Below, l1Once: a number in its range, and nothing else is written than the cursor. -/
import Derived.Test.YtcmmlklanjhfoaaGreatDoorGa7
import Derived.Maps.AppendAt
import Derived.Test.YtcmmlklanjhfoaaGreatDoorRows
import Derived.WalkKit
import Derived.WalkSpells
import Derived.WalkLawsBesides
import Derived.Handy
import Derived.Deep.QuietTactic
import Derived.BigQuiet
namespace Go.Proofs.YtcmmlklanjhfoaaGreatDoor
open Go.RowKit

theorem info_int : ∃ i, Tryz.prog.info? 3 = some i ∧ i.zero = some (.int .i64 0) ∧ i.size = 1 ∧ i.bytes = 8 := by
  have hinfo := infoInt
  cases hi : Tryz.prog.info? 3 with
  | none => rw [hi] at hinfo; cases hinfo
  | some i =>
    rw [hi] at hinfo
    simp only [Option.map_some, Option.some.injEq, Prod.mk.injEq] at hinfo
    exact ⟨i, rfl, hinfo⟩

/-- Nothing is appended from nil. -/
theorem run_append_none (w : World) (ty : TypeId) (B c : Nat) (v : Value) (xs : List Int) (h : OwnI w B v xs) :
    (Builtin.append_ #[30, 30] ty #[v, .slice none 0 c]).run Tryz.prog w = .ok v w := by
  obtain ⟨i, hi, _⟩ := info_int
  rcases h.2 with ⟨rfl, _⟩ | ⟨g, cap, cur, rfl, _, _, hnc, _⟩
  · simp [Builtin.append_, run_underlying Tryz.underlying30, sizeOf, typeInfo, hi, Builtin.lenOf, Builtin.firstCells]
  · simp [Builtin.append_, run_underlying Tryz.underlying30, sizeOf, typeInfo, hi, Builtin.lenOf, Builtin.firstCells, hnc, storeCells]

/-- What append does with ints, behind a list of one's own. -/
theorem run_append_ints (w : World) (ty : TypeId) (B c : Nat) (v : Value) (a0 : Option Addr) (xs ys : List Int) (h : OwnI w B v xs) (hy : Sl w a0 ys) (hn : xs.length + ys.length ≤ 4000000) (hB : B ≤ w.heap.size) :
    ∃ v' w', (Builtin.append_ #[30, 30] ty #[v, .slice a0 ys.length c]).run Tryz.prog w = .ok v' w' ∧ OwnI w' B v' (xs ++ ys) ∧ w.grownBy w' v.ownBlock ∧ (v'.ownBlock = v.ownBlock ∨ v'.ownBlock = some w.heap.size) := by
  obtain ⟨i, hi, hz, hs, hb⟩ := info_int
  cases a0 with
  | none =>
    have hy0 : ys = [] := by
      rcases hy with h0 | ⟨b, off, e, _⟩
      · exact h0
      · cases e
    subst hy0
    exact ⟨v, w, run_append_none w ty B c v xs h, by simpa using h, World.grownBy.refl _ _, .inl rfl⟩
  | some a =>
    have hnews : ∀ j u, (ys.map (Value.int .i64))[j]? = some u → w.cell? (a.add j) = some u := by
      rcases hy with h0 | ⟨b, off, e, hlt, hc⟩
      · subst h0; intro j u hj; simp at hj
      · cases e
        exact src_of_sl (.inr ⟨b, off, rfl, hlt, hc⟩) (Below.refl _ _)
    obtain ⟨v', w', h1, h2, h3, _, h5⟩ := run_append_own_at (P := Tryz.prog) w B 30 ty 3 i (.int .i64 0) 1 8 Tryz.underlying30 hi hz hs hb rfl (by decide) v xs.length (xs.map (Value.int .i64)) h a ys.length c (ys.map (Value.int .i64)) (by simp) hnews (one_ints ys) (by unfold maxLen; omega) (by omega) hB
    refine ⟨v', w', h1, ?_, h3, h5⟩
    unfold OwnI
    rw [List.length_append, List.map_append]
    exact h2

theorem wpList_append_ints {ops : Array Oper} {rest : List Oper} {op : Oper} {act : Act} {Q : Exit → Act → World → Prop} (w : World) (hgd : op.guard = none) (s x : Operand)
    (ho : op.op = .call { callee := .builtin .append, args := #[s, x], argTypes := #[30, 30] })
    (B c : Nat) (v : Value) (a0 : Option Addr) (xs ys : List Int) (hs : act.eval s = v) (hx : act.eval x = .slice a0 ys.length c) (hv : OwnI w B v xs) (hy : Sl w a0 ys) (hn : xs.length + ys.length ≤ 4000000) (hB : B ≤ w.heap.size)
    (h : ∀ v' w', OwnI w' B v' (xs ++ ys) → w.grownBy w' v.ownBlock → (v'.ownBlock = v.ownBlock ∨ v'.ownBlock = some w.heap.size) → wpList Tryz.prog ops Q rest (act.put op.dst v') w') :
    wpList Tryz.prog ops Q (op :: rest) act w := by
  obtain ⟨v', w', h1, h2, h3, h4⟩ := run_append_ints w op.type B c v a0 xs ys hv hy hn hB
  refine wpList_plain hgd fun K hK => ?_
  unfold Oper.wp execOp
  simp only [ho, resolve, invoke, builtin, Sem.run_bind, Sem.run_pure, Result.andThen_ok, List.map_toArray, List.map_cons, List.map_nil, hs, hx, h1]
  exact hK _ _ (h v' w' h2 h3 h4)

theorem own_empty (w : World) : OwnI (w.alloc (.cells #[] 3)) w.heap.size (.slice (some ⟨w.heap.size, 0, none⟩) 0 0) [] :=
  World.ownsRow_made (base := w.heap.size) (e := 3) (size := 1) w #[] 0 (Nat.le_refl _) (by unfold maxLen; omega) rfl

theorem own_emptyN (w : World) {N : Nat} (h : N = w.heap.size) : OwnI (w.alloc (.cells #[] 3)) N (.slice (some ⟨N, 0, none⟩) 0 0) [] := by
  subst h
  exact own_empty w

/-- A new list of these ints. -/
theorem wpList_append_new {ops : Array Oper} {rest : List Oper} {op : Oper} {act : Act} {Q : Exit → Act → World → Prop} (w : World) {N : Nat} (hN : N = w.heap.size) (hgd : op.guard = none) (s x : Operand)
    (ho : op.op = .call { callee := .builtin .append, args := #[s, x], argTypes := #[30, 30] })
    (c : Nat) (a0 : Option Addr) (ys : List Int) (hs : act.eval s = .slice (some ⟨N, 0, none⟩) 0 0) (hx : act.eval x = .slice a0 ys.length c) (hy : Sl w a0 ys) (hn : ys.length ≤ 1048576)
    (h : ∀ v' w', OwnI w' w.heap.size v' ys → Below w.heap.size w w' → wpList Tryz.prog ops Q rest (act.put op.dst v') w') :
    wpList Tryz.prog ops Q (op :: rest) act (w.alloc (.cells #[] 3)) := by
  subst hN
  have hb : Below w.heap.size w (w.alloc (.cells #[] 3)) := (Below.refl _ _).alloc (Nat.le_refl _) _
  refine wpList_append_ints _ hgd s x ho w.heap.size c (.slice (some ⟨w.heap.size, 0, none⟩) 0 0) a0 [] ys hs hx (own_empty w) (hy.below hb) (by simp; omega) (by simp) ?_
  intro v' w' o g _
  exact h v' w' (by simpa using o) (hb.grown g (by simp) (fun k hk => by cases hk; exact Nat.le_refl _))

/-- Where the walk stands still, at an append. -/
def STOP (p : Prop) : Prop := p
theorem append_stop {P : Program} {ops : Array Oper} {rest : List Oper} {op : Oper} {act : Act} {Q : Exit → Act → World → Prop} {w : World} {a : Array Operand} {t : Array TypeId} (_ : op.op = .call { callee := .builtin .append, args := a, argTypes := t }) (h : STOP (wpList P ops Q (op :: rest) act w)) : wpList P ops Q (op :: rest) act w := h

set_option maxRecDepth 100000 in
set_option maxHeartbeats 1000000 in
theorem clone_any (a0 : Option Addr) (cap : Nat) (xs : List Int) (w : World) (hlen : xs.length ≤ 1048576) (h : Sl w a0 xs) :
    Calls Tryz.prog 51 #[.slice a0 xs.length cap] w fun e w' => ∃ v, e = .returned v ∧ OwnI w' w.heap.size v xs ∧ Below w.heap.size w w' := by
  cases a0 with
  | none =>
    have h0 : xs = [] := by
      rcases h with h0 | ⟨b, off, e, _⟩
      · exact h0
      · cases e
    subst h0
    have he : ∀ wx : World, (binOp .eql 30 (.slice none 0 cap) (.slice none 0 0)).run Tryz.prog wx = .ok (.bool true) wx := fun wx => by kernel_rfl
    go_enter Tryz.func51, Tryz.ntmps51
    go_wp2
    go_ret
    exact ⟨_, rfl, World.ownsRow_nil _ _ _ _, Below.refl _ _⟩
  | some a =>
    have HS : Hid (Sl w (some a) xs) := h
    have he : ∀ wx : World, (binOp .eql 30 (.slice (some a) xs.length cap) (.slice none 0 0)).run Tryz.prog wx = .ok (.bool false) wx := fun wx => by kernel_rfl
    clear h
    go_enter Tryz.func51, Tryz.ntmps51
    go_wp2_with (at_builtin; refine wpList_append_ints _ rfl _ _ rfl w.heap.size cap (.slice (some ⟨w.heap.size, 0, none⟩) 0 0) (some a) [] xs rfl rfl (own_empty w) (HS.out.below ((Below.refl _ _).alloc (Nat.le_refl _) _)) (by simp; omega) (by simp) ?_; intro v' w1 o1 g1 _; have HF : Hid (OwnI w1 w.heap.size v' xs ∧ Below w.heap.size w w1) := ⟨by simpa using o1, ((Below.refl _ _).alloc (Nat.le_refl _) _).grown g1 (by simp) (fun k hk => by cases hk; exact Nat.le_refl _)⟩; clear o1 g1)
    go_ret
    exact ⟨_, rfl, HF.out⟩

set_option maxRecDepth 100000 in
set_option maxHeartbeats 1000000 in
theorem copyState_any (p code : Int) (ra oa : Option Addr) (rc oc : Nat) (rs os : List Int) (w : World) (hr : rs.length ≤ 1048576) (ho : os.length ≤ 1048576) (h1 : Sl w ra rs) (h2 : Sl w oa os) :
    Calls Tryz.prog 27 #[stV p ra rs.length rc oa os.length oc code] w fun e w' => ∃ v, e = .returned v ∧ StOwn w' w.heap.size v p rs os code ∧ Below w.heap.size w w' := by
  have H1 : Hid (Sl w ra rs) := h1
  have H2 : Hid (Sl w oa os) := h2
  clear h1 h2
  go_enter Tryz.func27, Tryz.ntmps27
  go_wp2_with fail
  refine (clone_any ra rc rs _ hr (H1.out.below (by go_grown))).mono ?_
  rintro e w1 ⟨v1, rfl, o1, b1⟩
  have B1 : Hid (Below w.heap.size w w1) := below_up (by go_grown) b1 (by simp; omega)
  obtain ⟨hc1, hf1⟩ := bcell b1
  have y1 : w.heap.size + 1 < w1.heap.size := by have := b1.size; simp at this; omega
  have y0 : w.heap.size < w1.heap.size := by omega
  obtain ⟨ra1, rc1, rfl, _⟩ := o1.form
  have s0 : w1.cell? ⟨w.heap.size, 0, none⟩ = some (.int .i64 p) := by rw [hc1 _ _ (by simp; omega)]; simp
  have s1 : w1.cell? ⟨w.heap.size, 1, none⟩ = some (.slice ra rs.length rc) := by rw [hc1 _ _ (by simp; omega)]; simp
  have s2 : w1.cell? ⟨w.heap.size, 2, none⟩ = some (.slice oa os.length oc) := by rw [hc1 _ _ (by simp; omega)]; simp
  have s3 : w1.cell? ⟨w.heap.size, 3, none⟩ = some (.int .i64 code) := by rw [hc1 _ _ (by simp; omega)]; simp
  have L1 : Hid (∀ k, (Value.slice ra1 rs.length rc1).ownBlock = some k → w.heap.size + 1 < k ∧ k < w1.heap.size) := fun k hk => by have := o1.lt k hk; simp at this; omega
  have BS : Hid (Below w.heap.size w (w1.setCell ⟨w.heap.size, 1, none⟩ (.slice ra1 rs.length rc1))) := B1.out.setCell (by simp) _
  have O1 : Hid (OwnI (w1.setCell ⟨w.heap.size, 1, none⟩ (.slice ra1 rs.length rc1)) (w.heap.size + 1 + 1) (.slice ra1 rs.length rc1) rs) := by
    simp only [World.size_alloc] at o1
    exact o1.setBelow (by simp; omega) _
  clear o1 b1 B1
  go_wp2_with fail
  refine (clone_any oa oc os _ ho (H2.out.below BS.out)).mono ?_
  rintro e w2 ⟨v2, rfl, o2, b2⟩
  have B2 : Hid (Below w.heap.size w w2) := below_up BS.out b2 (by simp; omega)
  obtain ⟨hc2, hf2⟩ := bcell b2
  obtain ⟨oa2, oc2, rfl, _⟩ := o2.form
  have O1' : Hid (OwnI w2 (w.heap.size + 1 + 1) (.slice ra1 rs.length rc1) rs) := O1.out.below b2
  simp only [World.size_setCell] at o2
  have O2 : Hid (OwnI w2 w1.heap.size (.slice oa2 os.length oc2) os) := o2
  clear o2 b2 BS O1
  go_wp2
  refine bodyPost_ret (v := stV p ra1 rs.length rc1 oa2 os.length oc2 code) (by simp [results, Tryz.results27, go_sem, hc2, y1, hc1]) rfl ⟨_, rfl, ⟨_, _, rfl, ?_, ?_, ?_⟩, ?_⟩
  · refine OwnI.mono (B := w.heap.size + 1 + 1) ?_ (by omega)
    repeat (refine OwnI.setBelow ?_ (by first | (simp; done) | (simp; omega)) _)
    exact O1'.out
  · refine OwnI.mono (B := w1.heap.size) ?_ (by omega)
    repeat (refine OwnI.setBelow ?_ (by simpa using by omega) _)
    exact O2.out
  · intro k hk hk'
    have h1 := L1.out k hk
    have h2 := O2.out.lt k hk'
    omega
  · have := B2.out
    go_grown

set_option maxRecDepth 100000 in
set_option maxHeartbeats 1000000 in
theorem l2Copy_any (p code : Int) (ra oa : Option Addr) (rc oc : Nat) (rs os : List Int) (w : World) (hr : rs.length ≤ 1048576) (ho : os.length ≤ 1048576) (h1 : Sl w ra rs) (h2 : Sl w oa os) :
    Calls Tryz.prog 32 #[stV p ra rs.length rc oa os.length oc code] w fun e w' => ∃ v, e = .returned v ∧ StOwn w' w.heap.size v p rs os code ∧ Below w.heap.size w w' := by
  have H1 : Hid (Sl w ra rs) := h1
  have H2 : Hid (Sl w oa os) := h2
  clear h1 h2
  go_enter Tryz.func32, Tryz.ntmps32
  go_wp2_with (at_builtin; refine append_stop rfl ?_)
  unfold STOP
  refine wpList_append_new _ (N := w.heap.size + 1 + 1) (by simp) rfl _ _ rfl rc ra rs rfl rfl (H1.out.below (by go_grown)) hr ?_
  intro v1 w1 o1 b1
  have B1 : Hid (Below w.heap.size w w1) := below_up (by go_grown) b1 (by simp; omega)
  obtain ⟨hc1, hf1⟩ := bcell b1
  have y1 : w.heap.size + 1 < w1.heap.size := by have := b1.size; simp at this; omega
  have y0 : w.heap.size < w1.heap.size := by omega
  obtain ⟨ra1, rc1, rfl, _⟩ := o1.form
  have s0 : w1.cell? ⟨w.heap.size, 0, none⟩ = some (.int .i64 p) := by rw [hc1 _ _ (by simp; omega)]; simp
  have s1 : w1.cell? ⟨w.heap.size, 1, none⟩ = some (.slice ra rs.length rc) := by rw [hc1 _ _ (by simp; omega)]; simp
  have s2 : w1.cell? ⟨w.heap.size, 2, none⟩ = some (.slice oa os.length oc) := by rw [hc1 _ _ (by simp; omega)]; simp
  have s3 : w1.cell? ⟨w.heap.size, 3, none⟩ = some (.int .i64 code) := by rw [hc1 _ _ (by simp; omega)]; simp
  have L1 : Hid (∀ k, (Value.slice ra1 rs.length rc1).ownBlock = some k → w.heap.size + 1 < k ∧ k < w1.heap.size) := fun k hk => by have := o1.lt k hk; simp at this; omega
  have BS : Hid (Below w.heap.size w (w1.setCell ⟨w.heap.size, 1, none⟩ (.slice ra1 rs.length rc1))) := B1.out.setCell (by simp) _
  have O1 : Hid (OwnI (w1.setCell ⟨w.heap.size, 1, none⟩ (.slice ra1 rs.length rc1)) (w.heap.size + 1 + 1) (.slice ra1 rs.length rc1) rs) := by
    simp only [World.size_alloc] at o1
    exact o1.setBelow (by simp; omega) _
  clear o1 b1 B1
  go_wp2_with (at_builtin; refine append_stop rfl ?_)
  unfold STOP
  refine wpList_append_new (w1.setCell ⟨w.heap.size, 1, none⟩ (.slice ra1 rs.length rc1)) (N := w1.heap.size) (by simp) rfl _ _ rfl oc oa os rfl rfl (H2.out.below BS.out) ho ?_
  intro v2 w2 o2 b2
  have B2 : Hid (Below w.heap.size w w2) := below_up BS.out b2 (by simp; omega)
  obtain ⟨hc2, hf2⟩ := bcell b2
  obtain ⟨oa2, oc2, rfl, _⟩ := o2.form
  have O1' : Hid (OwnI w2 (w.heap.size + 1 + 1) (.slice ra1 rs.length rc1) rs) := O1.out.below b2
  simp only [World.size_setCell] at o2
  have O2 : Hid (OwnI w2 w1.heap.size (.slice oa2 os.length oc2) os) := o2
  clear o2 b2 BS O1
  go_wp2
  refine bodyPost_ret (v := stV p ra1 rs.length rc1 oa2 os.length oc2 code) (by simp [results, Tryz.results32, go_sem, hc2, y1, hc1]) rfl ⟨_, rfl, ⟨_, _, rfl, ?_, ?_, ?_⟩, ?_⟩
  · refine OwnI.mono (B := w.heap.size + 1 + 1) ?_ (by omega)
    repeat (refine OwnI.setBelow ?_ (by first | (simp; done) | (simp; omega)) _)
    exact O1'.out
  · refine OwnI.mono (B := w1.heap.size) ?_ (by omega)
    repeat (refine OwnI.setBelow ?_ (by simpa using by omega) _)
    exact O2.out
  · intro k hk hk'
    have h1 := L1.out k hk
    have h2 := O2.out.lt k hk'
    omega
  · have := B2.out
    go_grown

end Go.Proofs.YtcmmlklanjhfoaaGreatDoor

namespace Go.Proofs.YtcmmlklanjhfoaaGreatDoor
open Go.RowKit

theorem i64_and255 (n : Int) : bits .and .i64 n 255 = n % 256 := by
  have h255 : (BitVec.ofInt 64 255).toNat = 2 ^ 8 - 1 := by decide
  have key : (BitVec.ofInt 64 n &&& BitVec.ofInt 64 255).toNat = (n % ((2 ^ 64 : Nat) : Int)).toNat % 2 ^ 8 := by
    rw [BitVec.toNat_and, BitVec.toNat_ofInt, h255, Nat.and_two_pow_sub_one_eq_mod]
  show IntKind.i64.wrap ((BitVec.ofInt 64 n &&& BitVec.ofInt 64 255).toNat : Nat) = n % 256
  rw [key, IntKind.wrap_i64]
  omega

/-- The bytes of a draw, in memory that was there before. -/
def BytesAt (w : World) (W0 : Nat) (a0 : Option Addr) (len : Nat) : Prop :=
  len = 0 ∨ ∃ b off, a0 = some ⟨b, off, none⟩ ∧ b < W0 ∧ ∀ j, j < len → ∃ z : Int, w.cell? ⟨b, off + j, none⟩ = some (.int .u8 z) ∧ 0 ≤ z ∧ z ≤ 255

/-- Block c is a cursor over these bytes. -/
structure Cur (w : World) (W0 c : Nat) (a0 : Option Addr) (len cap : Nat) : Prop where
  ex : ∃ (i : Nat) (h : Int), w.cell? ⟨c, 0, none⟩ = some (.slice a0 len cap) ∧ w.cell? ⟨c, 1, none⟩ = some (.int .i64 i) ∧ w.cell? ⟨c, 2, none⟩ = some (.int .i64 h)
  fr : ∀ o, w.frozen? ⟨c, o, none⟩ = false
  lt : c < w.heap.size
  ge : W0 ≤ c
  by' : BytesAt w W0 a0 len
  ln : len ≤ 1048576

theorem BytesAt.kept {w w' : World} {W0 len : Nat} {a0 : Option Addr} (h : BytesAt w W0 a0 len) (hb : ∀ k, k < W0 → w'.heap[k]? = w.heap[k]?) : BytesAt w' W0 a0 len := by
  rcases h with h | ⟨b, off, e, hlt, hz⟩
  · exact .inl h
  · refine .inr ⟨b, off, e, hlt, fun j hj => ?_⟩
    obtain ⟨z, hz1, hz2⟩ := hz j hj
    exact ⟨z, (World.cell?_of_block (hb b hlt)).trans hz1, hz2⟩

/-- A cursor stands as it was where neither it nor the old memory was written. -/
theorem Cur.kept {w w' : World} {W0 c len cap : Nat} {a0 : Option Addr} {row : Option Nat} (h : Cur w W0 c a0 len cap) (hg : w.grownBy w' row) (hne : some c ≠ row) (hr : ∀ k, row = some k → W0 ≤ k) : Cur w' W0 c a0 len cap := by
  have hc := hg.block c h.lt hne
  obtain ⟨i, hh, h0, h1, h2⟩ := h.ex
  refine ⟨⟨i, hh, (World.cell?_of_block hc).trans h0, (World.cell?_of_block hc).trans h1, (World.cell?_of_block hc).trans h2⟩, fun o => (World.frozen?_of_block hc).trans (h.fr o), Nat.lt_of_lt_of_le h.lt hg.size, h.ge, ?_, h.ln⟩
  exact h.by'.kept fun k hk => hg.block k (Nat.lt_trans (Nat.lt_of_lt_of_le hk h.ge) h.lt) (fun e => by have := hr k e.symm; omega)

theorem Cur.alloc {w : World} {W0 c len cap : Nat} {a0 : Option Addr} (h : Cur w W0 c a0 len cap) (o : Obj) : Cur (w.alloc o) W0 c a0 len cap :=
  h.kept (World.grownBy_alloc w o none) (by simp) (fun k hk => by cases hk)

theorem grown_drewN {w w' : World} {row : Option Nat} (h : w.grownBy w' row) (n : Nat) : w.grownBy (w'.drewN n) row := ⟨h.os, h.tape, h.output, h.size, h.block⟩
theorem grown_setCell {w w' : World} {row : Option Nat} (h : w.grownBy w' row) {p : Addr} (hp : row = some p.block ∨ w.heap.size ≤ p.block) (v : Value) : w.grownBy (w'.setCell p v) row :=
  ⟨h.os, h.tape, h.output, by simpa using h.size, fun k hk hne => by
    rw [Below.heap_setCell w' p v k (fun e => by
      subst e
      rcases hp with hp | hp
      · exact hne hp.symm
      · omega)]
    exact h.block k hk hne⟩

theorem Cur.drewN {w : World} {W0 c len cap : Nat} {a0 : Option Addr} (h : Cur w W0 c a0 len cap) (n : Nat) : Cur (w.drewN n) W0 c a0 len cap := ⟨h.ex, h.fr, h.lt, h.ge, h.by', h.ln⟩
theorem Cur.drew {w : World} {W0 c len cap : Nat} {a0 : Option Addr} (h : Cur w W0 c a0 len cap) : Cur w.drew W0 c a0 len cap := ⟨h.ex, h.fr, h.lt, h.ge, h.by', h.ln⟩
theorem Cur.bytesSet {w : World} {W0 c len cap : Nat} {a0 : Option Addr} (h : Cur w W0 c a0 len cap) (o : Nat) (v : Value) : BytesAt (w.setCell ⟨c, o, none⟩ v) W0 a0 len :=
  h.by'.kept fun k hk => Below.heap_setCell w ⟨c, o, none⟩ v k (fun e => by have := h.ge; simp at e; omega)
theorem Cur.set2 {w : World} {W0 c len cap : Nat} {a0 : Option Addr} (h : Cur w W0 c a0 len cap) (x : Int) : Cur (w.setCell ⟨c, 2, none⟩ (.int .i64 x)) W0 c a0 len cap := by
  obtain ⟨i, y, h0, h1, h2⟩ := h.ex
  exact ⟨⟨i, x, by go_cell, by go_cell, by go_cell⟩, fun o => by simpa using h.fr o, by simpa using h.lt, h.ge, h.bytesSet _ _, h.ln⟩
theorem Cur.set1 {w : World} {W0 c len cap : Nat} {a0 : Option Addr} (h : Cur w W0 c a0 len cap) (x : Int) (hx : 0 ≤ x) : Cur (w.setCell ⟨c, 1, none⟩ (.int .i64 x)) W0 c a0 len cap := by
  obtain ⟨i, y, h0, h1, h2⟩ := h.ex
  obtain ⟨k, rfl⟩ := Int.eq_ofNat_of_zero_le hx
  exact ⟨⟨k, y, by go_cell, by go_cell, by go_cell⟩, fun o => by simpa using h.fr o, by simpa using h.lt, h.ge, h.bytesSet _ _, h.ln⟩

set_option maxRecDepth 100000 in
set_option maxHeartbeats 1000000 in
theorem l1Byte_any (W0 c len cap : Nat) (a0 : Option Addr) (w : World) (hc : Cur w W0 c a0 len cap) :
    Calls Tryz.prog 69 #[.pointer (some ⟨c, 0, none⟩)] w fun e w' => ∃ x : Int, e = .returned (.int .i64 x) ∧ (0 ≤ x ∧ x ≤ 255) ∧ Cur w' W0 c a0 len cap ∧ w.grownBy w' (some c) := by
  have HCur : Hid (Cur w W0 c a0 len cap) := hc
  obtain ⟨⟨i, h, c0, c1, c2⟩, fr, lt, ge, hby, ln⟩ := hc
  have f1 := fr 1
  have f2 := fr 2
  have ln' : (len : Int) ≤ 1048576 := by omega
  have HB : Hid (BytesAt w W0 a0 len) := hby
  clear hby fr
  have hand := i64_and255
  by_cases hil : i < len
  · have hil' : (i : Int) < (len : Int) := by omega
    rcases HB.out with hb | ⟨b, off, rfl, hbW, hz⟩
    · omega
    obtain ⟨z, cz, z0, z1⟩ := hz i hil
    have hbc : b ≠ c := by omega
    clear hz
    go_enter Tryz.func69, Tryz.ntmps69
    go_wp2
    generalize wrap64 (wrap64 (h * 6364136223846793005) + 1442695040888963407) = h2
    go_quiet (fail)
    go_wp2
    go_quiet (fail)
    go_wp2
    go_quiet (fail)
    go_wp2
    go_ret
    refine ⟨_, rfl, by omega, ?_, ?_⟩
    · exact ((HCur.out.set2 h2).drewN _).set1 ((i : Int) + 1) (by omega)
    · exact grown_setCell (p := ⟨c, 1, none⟩) (grown_drewN (grown_setCell (p := ⟨c, 2, none⟩) (World.grownBy.refl w (some c)) (.inl rfl) _) _) (.inl rfl) _
  · have hil' : ¬ ((i : Int) < (len : Int)) := by omega
    go_enter Tryz.func69, Tryz.ntmps69
    go_wp2
    generalize wrap64 (wrap64 (h * 6364136223846793005) + 1442695040888963407) = h2
    go_quiet (fail)
    go_wp2
    go_quiet (fail)
    go_wp2
    go_ret
    refine ⟨_, rfl, by omega, ?_, ?_⟩
    · exact ((HCur.out.set2 h2).drewN _).drewN _
    · exact grown_drewN (grown_drewN (grown_setCell (World.grownBy.refl _ _) (.inl rfl) _) _) _

set_option maxHeartbeats 400000 in
theorem l1Below_any (W0 c len cap : Nat) (a0 : Option Addr) (n : Int) (w : World) (hc : Cur w W0 c a0 len cap) (n1 : 1 ≤ n) (n2 : n ≤ 256) :
    Calls Tryz.prog 38 #[.pointer (some ⟨c, 0, none⟩), .int .i64 n] w fun e w' => ∃ x : Int, e = .returned (.int .i64 x) ∧ (0 ≤ x ∧ x < n) ∧ Cur w' W0 c a0 len cap ∧ w.grownBy w' (some c) := by
  have n3 : ¬ n ≤ 0 := by omega
  have n4 : (n == 0) = false := by simp; omega
  have HCur : Hid (Cur w W0 c a0 len cap) := hc
  clear hc
  go_enter Tryz.func38, Tryz.ntmps38
  go_wp2_with fail
  refine (l1Byte_any W0 c len cap a0 _ HCur.out).mono ?_
  rintro e w1 ⟨x, rfl, ⟨x0, x1⟩, hc1, hg1⟩
  have HC1 : Hid (Cur w1 W0 c a0 len cap) := hc1
  have HG1 : Hid (w.grownBy w1 (some c)) := hg1
  clear hc1 hg1
  go_wp2
  go_ret
  exact ⟨_, rfl, ⟨Int.emod_nonneg _ (by omega), Int.emod_lt_of_pos _ (by omega)⟩, HC1.out, HG1.out⟩

set_option maxHeartbeats 400000 in
theorem l1Once_any (W0 c len cap : Nat) (a0 : Option Addr) (n : Int) (w : World) (hc : Cur w W0 c a0 len cap) (n1 : 1 ≤ n) (n2 : n ≤ 256) :
    Calls Tryz.prog 64 #[.pointer (some ⟨c, 0, none⟩), .int .i64 n] w fun e w' => ∃ x : Bool, e = .returned (.bool x) ∧ Cur w' W0 c a0 len cap ∧ w.grownBy w' (some c) := by
  have HCur : Hid (Cur w W0 c a0 len cap) := hc
  clear hc
  go_enter Tryz.func64, Tryz.ntmps64
  go_wp2_with fail
  refine (l1Below_any W0 c len cap a0 _ _ HCur.out n1 n2).mono ?_
  rintro e w1 ⟨x, rfl, _, hc1, hg1⟩
  have HC1 : Hid (Cur w1 W0 c a0 len cap) := hc1
  have HG1 : Hid (w.grownBy w1 (some c)) := hg1
  clear hc1 hg1
  go_wp2
  go_ret
  exact ⟨_, rfl, HC1.out, HG1.out⟩

/-- A row of ints of the draw's own. -/
def IntsAt (w : World) (b len : Nat) (z : Nat → Int) : Prop := ∀ j, j < len → w.cell? ⟨b, j, none⟩ = some (.int .i64 (z j))

set_option maxHeartbeats 400000 in
theorem l1PickInt_of (W0 c len cap b m mc : Nat) (a0 : Option Addr) (z : Nat → Int) (w : World) (hc : Cur w W0 c a0 len cap) (n1 : 1 ≤ m) (n2 : m ≤ 256) (hb : b < w.heap.size) (hne : b ≠ c) (hz : IntsAt w b m z) :
    Calls Tryz.prog 99 #[.pointer (some ⟨c, 0, none⟩), .slice (some ⟨b, 0, none⟩) m mc] w fun e w' => ∃ k : Nat, k < m ∧ e = .returned (.int .i64 (z k)) ∧ Cur w' W0 c a0 len cap ∧ w.grownBy w' (some c) := by
  have HCur : Hid (Cur w W0 c a0 len cap) := hc
  have HZ : Hid (IntsAt w b m z) := hz
  clear hc hz
  go_enter Tryz.func99, Tryz.ntmps99
  go_wp2_with fail
  refine (l1Below_any W0 c len cap a0 _ _ HCur.out (by omega) (by omega)).mono ?_
  rintro e w1 ⟨x, rfl, ⟨x0, x1⟩, hc1, hg1⟩
  obtain ⟨k, rfl⟩ := Int.eq_ofNat_of_zero_le x0
  have cz : w1.cell? ⟨b, k, none⟩ = some (.int .i64 (z k)) := (World.cell?_of_block (hg1.block b hb (by simp [hne]))).trans (HZ.out k (by omega))
  have HC1 : Hid (Cur w1 W0 c a0 len cap) := hc1
  have HG1 : Hid (w.grownBy w1 (some c)) := hg1
  clear hc1 hg1
  go_wp2
  go_ret
  exact ⟨k, by omega, rfl, HC1.out, HG1.out⟩
theorem l1PickInt_any (W0 c len cap b m mc : Nat) (a0 : Option Addr) (z : Nat → Int) (w : World) (hc : Cur w W0 c a0 len cap) (n1 : 1 ≤ m) (n2 : m ≤ 256) (hb : b < w.heap.size) (hne : b ≠ c) (hz : IntsAt w b m z) :
    Calls Tryz.prog 99 #[.pointer (some ⟨c, 0, none⟩), .slice (some ⟨b, 0, none⟩) m mc] w fun e w' => ∃ x : Int, e = .returned (.int .i64 x) ∧ Cur w' W0 c a0 len cap ∧ w.grownBy w' (some c) := by
  refine (l1PickInt_of W0 c len cap b m mc a0 z w hc n1 n2 hb hne hz).mono ?_
  rintro e w' ⟨k, -, he, h⟩
  exact ⟨_, he, h⟩

end Go.Proofs.YtcmmlklanjhfoaaGreatDoor
