/- The walks of the model's Printed and of the program's. -/
import Derived.Test.YtfbjeabpibnacaaSsW
import Derived.Maps.AppendAt
namespace Go.Proofs.Ytfbjeabpibnacaa
open Go.ChangeShapes Go.WideShapes Go.ChangeAt Go.RowKit Go.Deep

theorem OwnI.far {w w' : World} {B : Nat} {v : Value} {xs : List Int} {row : Option Nat} (h : OwnI w B v xs) (hg : w.grownBy w' row) (hne : ∀ j, v.ownBlock = some j → row ≠ some j) : OwnI w' B v xs := by
  refine h.kept hg ?_
  cases hv : v.ownBlock with
  | none => exact .inl rfl
  | some k => exact .inr (fun e => hne k hv e.symm)
theorem OwnI.sl {w : World} {B : Nat} {a0 : Option Addr} {cap : Nat} {xs : List Int} (h : OwnI w B (.slice a0 xs.length cap) xs) : Sl w a0 xs := by
  obtain ⟨a1, c1, e, s⟩ := h.form
  simp only [Value.slice.injEq] at e
  obtain ⟨rfl, -, -⟩ := e
  exact s
theorem OwnI.touch {w w' : World} {B : Nat} {v : Value} {xs : List Int} {P : Nat → Prop} (o : OwnI w B v xs) (ht : Touch P w w') (hp : ∀ g, v.ownBlock = some g → ¬ P g) : OwnI w' B v xs := o.blk fun k hk => ht.block k (o.lt k hk).2 (hp k hk)

/-- A new list of these ints. -/
theorem wpList_append_new {ops : Array Oper} {rest : List Oper} {op : Oper} {act : Act} {Q : Exit → Act → World → Prop} (w : World) {N : Nat} (hN : N = w.heap.size) (hgd : op.guard = none) (s x : Operand)
    (ho : op.op = .call { callee := .builtin .append, args := #[s, x], argTypes := #[29, 29] })
    (c : Nat) (a0 : Option Addr) (ys : List Int) (hs : act.eval s = .slice (some ⟨N, 0, none⟩) 0 0) (hx : act.eval x = .slice a0 ys.length c) (hy : Sl w a0 ys) (hn : ys.length ≤ 1048576)
    (h : ∀ v' w', OwnI w' w.heap.size v' ys → Below w.heap.size w w' → wpList Try.prog ops Q rest (act.put op.dst v') w') :
    wpList Try.prog ops Q (op :: rest) act (w.alloc (.cells #[] 3)) := by
  subst hN
  have hb : Below w.heap.size w (w.alloc (.cells #[] 3)) := (Below.refl _ _).alloc (Nat.le_refl _) _
  refine wpList_append_ints _ hgd s x ho w.heap.size c (.slice (some ⟨w.heap.size, 0, none⟩) 0 0) a0 [] ys hs hx (own_empty w) (hy.below hb) (by simp; omega) (by simp) ?_
  intro v' w' o g _
  exact h v' w' (by simpa using o) (hb.grown g (by simp) (fun k hk => by cases hk; exact Nat.le_refl _))

set_option maxRecDepth 100000 in
set_option maxHeartbeats 1000000 in
theorem clone_any (a0 : Option Addr) (cap : Nat) (xs : List Int) (w : World) (hlen : xs.length ≤ 1048576) (h : Sl w a0 xs) :
    Calls Try.prog 23 #[.slice a0 xs.length cap] w fun e w' => ∃ v, e = .returned v ∧ OwnI w' w.heap.size v xs ∧ Below w.heap.size w w' := by
  cases a0 with
  | none =>
    have h0 : xs = [] := by
      rcases h with h0 | ⟨b, off, e, _⟩
      · exact h0
      · cases e
    subst h0
    have he : ∀ wx : World, (binOp .eql 29 (.slice none 0 cap) (.slice none 0 0)).run Try.prog wx = .ok (.bool true) wx := fun wx => by kernel_rfl
    go_enter Try.func23, Try.ntmps23
    go_wp2
    go_ret
    exact ⟨_, rfl, World.ownsRow_nil _ _ _ _, Below.refl _ _⟩
  | some a =>
    have HS : Hid (Sl w (some a) xs) := h
    have he : ∀ wx : World, (binOp .eql 29 (.slice (some a) xs.length cap) (.slice none 0 0)).run Try.prog wx = .ok (.bool false) wx := fun wx => by kernel_rfl
    clear h
    go_enter Try.func23, Try.ntmps23
    go_wp2_with (at_builtin; refine wpList_append_ints _ rfl _ _ rfl w.heap.size cap (.slice (some ⟨w.heap.size, 0, none⟩) 0 0) (some a) [] xs rfl rfl (own_empty w) (HS.out.below ((Below.refl _ _).alloc (Nat.le_refl _) _)) (by simp; omega) (by simp) ?_; intro v' w1 o1 g1 _; have HF : Hid (OwnI w1 w.heap.size v' xs ∧ Below w.heap.size w w1) := ⟨by simpa using o1, ((Below.refl _ _).alloc (Nat.le_refl _) _).grown g1 (by simp) (fun k hk => by cases hk; exact Nat.le_refl _)⟩; clear o1 g1)
    go_ret
    exact ⟨_, rfl, HF.out⟩

/-- What process p printed. -/
def prL (x : SysIn) (p : Int) : List Int := if belB p x.sn = true then (x.sS p.toNat).os else []
theorem prL_len (x : SysIn) (p : Int) (hs : x.size ≤ 1048576) : (prL x p).length ≤ 1048576 := by
  unfold prL
  by_cases e : belB p x.sn = true
  · rw [if_pos e]
    simp only [belB, decide_eq_true_eq] at e
    exact (SysIn.lensS hs p.toNat (by omega)).2
  · rw [if_neg e]
    simp

set_option maxRecDepth 100000 in
set_option maxHeartbeats 2000000 in
theorem specPrinted_any (x : SysIn) (lo hi : Nat) (v : Value) (p : Int) (w : World) (hs : x.size ≤ 1048576) (o : IsSys w lo hi x v) :
    Calls Try.prog 5 #[v, .int .i64 p] w fun e w' => ∃ u, e = .returned u ∧ OwnI w' w.heap.size u (prL x p) ∧ Below w.heap.size w w' := by
  obtain ⟨D1, D2, D3, D4, b1, vs, b3, b4, h1, h2, h3, o⟩ := o
  have HS : Hid (x.size ≤ 1048576) := hs
  obtain ⟨rfl, -, w1, -, -, -, -, -, -⟩ := o
  have W1 : Hid (OutState w D2 h2 x.sn x.sS vs) := w1
  have hsn : (x.sn : Int) ≤ 1048576 := by have := (SysIn.lens hs).2.1.1; omega
  clear w1 hs
  by_cases tA : inB p 0 ((x.sn : Int) - 1) = true
  · have hA : 0 ≤ p ∧ p ≤ (x.sn : Int) - 1 := by
      simp only [inB, decide_eq_true_eq] at tA
      omega
    generalize hJ : p.toNat = J
    obtain rfl : p = (J : Int) := by omega
    have hJn : J < x.sn := by omega
    have HN : Hid (prL x (J : Int) = (x.sS J).os) := by
      show prL x (J : Int) = (x.sS J).os
      unfold prL
      rw [if_pos (by simp only [belB, decide_eq_true_eq]; omega)]
      rfl
    have HL : Hid ((x.sS J).os.length ≤ 1048576) := (SysIn.lensS HS.out J hJn).2
    obtain ⟨ra, rc, oa, oc, ev, c0, c1, c2, c3⟩ := W1.out.cel J hJn
    have HSl : Hid (Sl w oa (x.sS J).os) := by
      obtain ⟨vr, vo, e, -, q2, -⟩ := W1.out.own J hJn
      rw [ev] at e
      simp only [Value.agg.injEq] at e
      have e2 : vo = .slice oa (x.sS J).os.length oc := by
        have := congrArg (fun a => a[2]?) e
        simpa using this.symm
      subst e2
      exact q2.sl
    have hD : D2 < w.heap.size := Nat.lt_of_lt_of_le W1.out.lt W1.out.le
    have nC : ¬ (x.sn : Int) ≤ (J : Int) := by omega
    have hJ' : (J : Int) ≤ 1048576 := by omega
    have HIx : Hid (Sl (w.alloc (.cells #[.slice (some ⟨D1, 0, none⟩) x.pn x.pn, .slice (some ⟨D2, 0, none⟩) x.sn x.sn, .slice (some ⟨D3, 0, none⟩) x.wn x.wn, .slice (some ⟨D4, 0, none⟩) x.hn x.hn] 36)) oa (x.sS J).os) := HSl.out.below (below_allocS _ _)
    clear hA ev
    go_enter Try.func5, Try.ntmps5
    go_wp2_with fail
    refine (l1In_any _ _ _ _).mono ?_
    rintro e w1 ⟨rfl, rfl⟩
    rw [tA]
    go_wp2_with (at_builtin; refine wpList_append_new (w.alloc (.cells #[.slice (some ⟨D1, 0, none⟩) x.pn x.pn, .slice (some ⟨D2, 0, none⟩) x.sn x.sn, .slice (some ⟨D3, 0, none⟩) x.wn x.wn, .slice (some ⟨D4, 0, none⟩) x.hn x.hn] 36)) (N := w.heap.size + 1) (by simp) rfl _ _ rfl oc oa (x.sS J).os rfl rfl HIx.out HL.out ?_; intro v' w4 o4 b4; have HF : Hid (OwnI w4 w.heap.size v' (x.sS J).os ∧ Below w.heap.size w w4) := ⟨o4.mono (by simp), (below_allocS _ _).trans (b4.mono (by simp))⟩; clear o4 b4)
    go_ret
    rw [HN.out]
    exact ⟨_, rfl, HF.out⟩
  · rw [Bool.not_eq_true] at tA
    have HN : Hid (prL x p = []) := by
      show prL x p = []
      unfold prL
      rw [if_neg]
      simp only [belB, decide_eq_true_eq]
      simp only [inB, decide_eq_false_iff_not] at tA
      omega
    go_enter Try.func5, Try.ntmps5
    go_wp2_with fail
    refine (l1In_any _ _ _ _).mono ?_
    rintro e w1 ⟨rfl, rfl⟩
    rw [tA]
    go_wp2
    refine bodyPost_ret (v := .slice (some ⟨w.heap.size + 1, 0, none⟩) 0 0) (by simp [results, Try.results5, go_sem]) rfl ⟨_, rfl, ?_, by go_grown⟩
    rw [HN.out]
    exact (own_emptyN (w.alloc (.cells #[.slice (some ⟨D1, 0, none⟩) x.pn x.pn, .slice (some ⟨D2, 0, none⟩) x.sn x.sn, .slice (some ⟨D3, 0, none⟩) x.wn x.wn, .slice (some ⟨D4, 0, none⟩) x.hn x.hn] 36)) (by simp)).mono (by simp)

set_option maxRecDepth 100000 in
set_option maxHeartbeats 2000000 in
theorem implPrinted_any (x : SysIn) (lo hi : Nat) (v : Value) (p : Int) (w : World) (hs : x.size ≤ 1048576) (o : IsSys w lo hi x v) :
    Calls Try.prog 7 #[v, .int .i64 p] w fun e w' => ∃ u, e = .returned u ∧ OwnI w' w.heap.size u (prL x p) ∧ Below w.heap.size w w' := by
  obtain ⟨D1, D2, D3, D4, b1, vs, b3, b4, h1, h2, h3, o⟩ := o
  have HS : Hid (x.size ≤ 1048576) := hs
  obtain ⟨rfl, -, w1, -, -, -, -, -, -⟩ := o
  have W1 : Hid (OutState w D2 h2 x.sn x.sS vs) := w1
  have hsn : (x.sn : Int) ≤ 1048576 := by have := (SysIn.lens hs).2.1.1; omega
  clear w1 hs
  by_cases tA : belB p x.sn = true
  · have hA : 0 ≤ p ∧ p ≤ (x.sn : Int) - 1 := by
      simp only [belB, decide_eq_true_eq] at tA
      omega
    generalize hJ : p.toNat = J
    obtain rfl : p = (J : Int) := by omega
    have hJn : J < x.sn := by omega
    have HN : Hid (prL x (J : Int) = (x.sS J).os) := by
      show prL x (J : Int) = (x.sS J).os
      unfold prL
      rw [if_pos (by simp only [belB, decide_eq_true_eq]; omega)]
      rfl
    have HL : Hid ((x.sS J).os.length ≤ 1048576) := (SysIn.lensS HS.out J hJn).2
    obtain ⟨ra, rc, oa, oc, ev, c0, c1, c2, c3⟩ := W1.out.cel J hJn
    have HSl : Hid (Sl w oa (x.sS J).os) := by
      obtain ⟨vr, vo, e, -, q2, -⟩ := W1.out.own J hJn
      rw [ev] at e
      simp only [Value.agg.injEq] at e
      have e2 : vo = .slice oa (x.sS J).os.length oc := by
        have := congrArg (fun a => a[2]?) e
        simpa using this.symm
      subst e2
      exact q2.sl
    have hD : D2 < w.heap.size := Nat.lt_of_lt_of_le W1.out.lt W1.out.le
    have nC : ¬ (x.sn : Int) ≤ (J : Int) := by omega
    have hJ' : (J : Int) ≤ 1048576 := by omega
    have HIx : Hid (Sl (w.alloc (.cells #[.slice (some ⟨D1, 0, none⟩) x.pn x.pn, .slice (some ⟨D2, 0, none⟩) x.sn x.sn, .slice (some ⟨D3, 0, none⟩) x.wn x.wn, .slice (some ⟨D4, 0, none⟩) x.hn x.hn] 36)) oa (x.sS J).os) := HSl.out.below (below_allocS _ _)
    clear hA ev
    go_enter Try.func7, Try.ntmps7
    go_wp2_with fail
    refine (isBelow_any _ _ _).mono ?_
    rintro e w1 ⟨rfl, rfl⟩
    rw [tA]
    go_wp2_with fail
    refine (clone_any oa oc (x.sS J).os _ HL.out HIx.out).mono ?_
    rintro e w4 ⟨u, rfl, o4, b4⟩
    have HF : Hid (OwnI w4 w.heap.size u (x.sS J).os ∧ Below w.heap.size w w4) := ⟨o4.mono (by simp), (below_allocS _ _).trans (b4.mono (by simp))⟩
    clear o4 b4
    go_wp2
    go_ret
    rw [HN.out]
    exact ⟨_, rfl, HF.out⟩
  · rw [Bool.not_eq_true] at tA
    have HN : Hid (prL x p = []) := by
      show prL x p = []
      unfold prL
      rw [if_neg]
      simp only [belB, decide_eq_true_eq]
      simp only [belB, decide_eq_false_iff_not] at tA
      omega
    go_enter Try.func7, Try.ntmps7
    go_wp2_with fail
    refine (isBelow_any _ _ _).mono ?_
    rintro e w1 ⟨rfl, rfl⟩
    rw [tA]
    go_wp2
    refine bodyPost_ret (v := .slice (some ⟨w.heap.size + 1, 0, none⟩) 0 0) (by simp [results, Try.results7, go_sem]) rfl ⟨_, rfl, ?_, by go_grown⟩
    rw [HN.out]
    exact (own_emptyN (w.alloc (.cells #[.slice (some ⟨D1, 0, none⟩) x.pn x.pn, .slice (some ⟨D2, 0, none⟩) x.sn x.sn, .slice (some ⟨D3, 0, none⟩) x.wn x.wn, .slice (some ⟨D4, 0, none⟩) x.hn x.hn] 36)) (by simp)).mono (by simp)

end Go.Proofs.Ytfbjeabpibnacaa
