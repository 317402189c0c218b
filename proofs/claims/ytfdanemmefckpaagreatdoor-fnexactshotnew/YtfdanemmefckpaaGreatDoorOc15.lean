/- The walks of Count, Nth and Values, the program's and the model's. -/
import Derived.Test.YtfdanemmefckpaaGreatDoorOc0
import Derived.Test.YtfdanemmefckpaaGreatDoorOc10
import Derived.Test.YtfdanemmefckpaaGreatDoorOc12
import Derived.Test.YtfdanemmefckpaaGreatDoorOc13
import Derived.Test.YtfdanemmefckpaaGreatDoorOc14
import Derived.Test.YtfdanemmefckpaaGreatDoorOc9
import Derived.Deep.CutRange
namespace Go.Proofs.YtfdanemmefckpaaGreatDoor
set_option maxRecDepth 100000
set_option maxHeartbeats 1000000
open Go.RowKit
def cnt (eh : Nat → E3) (kd pr : Int) (n : Nat) : Nat := (plN eh kd pr n).length
theorem cnt_zero (eh : Nat → E3) (kd pr : Int) : cnt eh kd pr 0 = 0 := rfl
theorem cnt_hit {eh : Nat → E3} {kd pr : Int} {n : Nat} (h : hitB eh kd pr n = true) : cnt eh kd pr (n + 1) = cnt eh kd pr n + 1 := by
 unfold cnt
 rw [plN, if_pos h, List.length_append]
 rfl
theorem cnt_not {eh : Nat → E3} {kd pr : Int} {n : Nat} (h : hitB eh kd pr n = false) : cnt eh kd pr (n + 1) = cnt eh kd pr n := by
 unfold cnt
 rw [plN, if_neg (by rw [h]; decide)]
theorem cnt_le (eh : Nat → E3) (kd pr : Int) (n : Nat) : cnt eh kd pr n ≤ n := plN_le eh kd pr n
theorem cnt_mono (eh : Nat → E3) (kd pr : Int) {a b : Nat} (h : a ≤ b) : cnt eh kd pr a ≤ cnt eh kd pr b := by
 induction b with
 | zero =>
  have : a = 0 := by omega
  subst this
  exact Nat.le_refl _
 | succ b ih =>
  by_cases e : a = b + 1
  ·subst e
   exact Nat.le_refl _
  ·have := ih (by omega)
   rcases Bool.eq_false_or_eq_true (hitB eh kd pr b) with t | t
   ·rw [cnt_hit t]
    omega
   ·rw [cnt_not t]
    exact this
theorem hitB_iff {eh : Nat → E3} {kd pr : Int} {i : Nat} : hitB eh kd pr i = true ↔ (eh i).k = kd ∧ (eh i).q = pr := by
 simp [hitB]
structure Hs where
 n : Nat
 l : Nat → Nat
 e : Nat → Nat → E3
def Hs.Peers (x : Hs) : Prop := ∀ p, p < x.n → ∀ i, i < x.l p → 0 ≤ (x.e p i).q ∧ (x.e p i).q < (x.n : Int)
def Hs.Can (x : Hs) (d : Nat → Nat) (p : Nat) : Prop :=
 d p < x.l p ∧ ((x.e p (d p)).k = 3 → cnt (x.e p) 3 (x.e p (d p)).q (d p) < cnt (x.e (x.e p (d p)).q.toNat) 2 p (d (x.e p (d p)).q.toNat))
def up (d : Nat → Nat) (p : Nat) : Nat → Nat := fun i => if i = p then d i + 1 else d i
theorem up_same (d : Nat → Nat) (p : Nat) : up d p p = d p + 1 := by simp [up]
theorem up_other {d : Nat → Nat} {p i : Nat} (h : i ≠ p) : up d p i = d i := by simp [up, h]
inductive Hs.Put (x : Hs) : (Nat → Nat) → Prop
 | start : x.Put (fun _ => 0)
 | next {d : Nat → Nat} {p : Nat} : x.Put d → p < x.n → x.Can d p → x.Put (up d p)
def Hs.All (x : Hs) (d : Nat → Nat) : Prop := ∀ p, p < x.n → d p = x.l p
def Hs.Row (x : Hs) : Prop := ∃ d, x.Put d ∧ x.All d
theorem Hs.Put.le {x : Hs} {d : Nat → Nat} (h : x.Put d) : ∀ p, d p ≤ x.l p := by
 induction h with
 | start => exact fun _ => Nat.zero_le _
 | next _ _ hc ih =>
  rename_i d p _ _
  intro i
  by_cases e : i = p
  ·subst e
   rw [up_same]
   exact hc.1
  ·rw [up_other e]
   exact ih i
theorem Hs.Put.stuck {x : Hs} {d s : Nat → Nat} (h : x.Put d) (hp : x.Peers) (hs : ∀ p, p < x.n → ¬ x.Can s p) : ∀ p, p < x.n → d p ≤ s p := by
 induction h with
 | start => exact fun _ _ => Nat.zero_le _
 | next _ hpn hc ih =>
  rename_i d p _
  intro i hi
  by_cases e : i = p
  ·subst e
   rw [up_same]
   have h1 := ih i hi
   by_cases e : d i = s i
   ·exfalso
    refine hs i hi ⟨by rw [← e]; exact hc.1, fun hk => ?_⟩
    rw [← e] at hk ⊢
    have h2 := hc.2 hk
    have hq := hp i hi (d i) hc.1
    exact Nat.lt_of_lt_of_le h2 (cnt_mono _ _ _ (ih _ (by omega)))
   ·omega
  ·rw [up_other e]
   exact ih i hi
theorem Hs.row_iff {x : Hs} {s : Nat → Nat} (h : x.Put s) (hp : x.Peers) (hs : ∀ p, p < x.n → ¬ x.Can s p) : x.Row ↔ x.All s := by
 refine ⟨fun ⟨d, hd, ha⟩ p hpn => ?_, fun ha => ⟨s, h, ha⟩⟩
 have h1 := hd.stuck hp hs p hpn
 have h2 := h.le p
 have h3 := ha p hpn
 omega
def Hs.opn (x : Hs) (d : Nat → Nat) (a b : Nat) : Int := (cnt (x.e a) 2 b (d a) : Int) - (cnt (x.e b) 3 a (d b) : Int)
theorem Hs.opn_start (x : Hs) (a b : Nat) : x.opn (fun _ => 0) a b = 0 := by simp [Hs.opn, cnt_zero]
theorem Hs.can_iff {x : Hs} {d : Nat → Nat} {p : Nat} (hp : x.Peers) (hpn : p < x.n) : x.Can d p ↔ d p < x.l p ∧ ((x.e p (d p)).k = 3 → 0 < x.opn d (x.e p (d p)).q.toNat p) := by
 unfold Hs.Can Hs.opn
 refine and_congr_right fun hl => ?_
 have hq := hp p hpn _ hl
 rw [show (((x.e p (d p)).q.toNat : Nat) : Int) = (x.e p (d p)).q by omega]
 refine ⟨fun h hk => ?_, fun h hk => ?_⟩
 ·have := h hk
  omega
 ·have := h hk
  omega
theorem Hs.opn_up {x : Hs} {d : Nat → Nat} {p a b : Nat} : x.opn (up d p) a b = x.opn d a b + (if a = p ∧ (x.e p (d p)).k = 2 ∧ (x.e p (d p)).q = (b : Int) then 1 else 0) - (if b = p ∧ (x.e p (d p)).k = 3 ∧ (x.e p (d p)).q = (a : Int) then 1 else 0) := by
 have hA : (cnt (x.e a) 2 b (up d p a) : Int) = cnt (x.e a) 2 b (d a) + (if a = p ∧ (x.e p (d p)).k = 2 ∧ (x.e p (d p)).q = (b : Int) then 1 else 0) := by
  by_cases e : a = p
  ·subst e
   rw [up_same]
   rcases Bool.eq_false_or_eq_true (hitB (x.e a) 2 b (d a)) with t | t
   ·rw [cnt_hit t, if_pos ⟨rfl, hitB_iff.1 t⟩]
    omega
   ·rw [cnt_not t, if_neg (fun h => by rw [hitB_iff.2 h.2] at t; cases t)]
    omega
  ·rw [up_other e, if_neg (fun h => e h.1)]
   omega
 have hB : (cnt (x.e b) 3 a (up d p b) : Int) = cnt (x.e b) 3 a (d b) + (if b = p ∧ (x.e p (d p)).k = 3 ∧ (x.e p (d p)).q = (a : Int) then 1 else 0) := by
  by_cases e : b = p
  ·subst e
   rw [up_same]
   rcases Bool.eq_false_or_eq_true (hitB (x.e b) 3 a (d b)) with t | t
   ·rw [cnt_hit t, if_pos ⟨rfl, hitB_iff.1 t⟩]
    omega
   ·rw [cnt_not t, if_neg (fun h => by rw [hitB_iff.2 h.2] at t; cases t)]
    omega
  ·rw [up_other e, if_neg (fun h => e h.1)]
   omega
 unfold Hs.opn
 rw [hA, hB]
 omega
open Go.Sort
def StepR (w : World) (B : Nat) (v0 : Value) (os : List Int) (p' a' b' c' d' : Int) (os' : List Int) (code' : Int) (e : Ending) (w' : World) : Prop :=
 ∃ oa' oc', e = .returned (dV p' a' b' c' d' oa' os'.length oc' code') ∧ OwnI w' B (.slice oa' os'.length oc') os' ∧ OwnI w' B v0 os ∧ w.grownBy w' v0.ownBlock ∧ ∀ j, (Value.slice oa' os'.length oc').ownBlock = some j → v0.ownBlock = some j ∨ w.heap.size ≤ j
theorem grown_below {w w' : World} {row : Option Nat} {B : Nat} (h : w.grownBy w' row) (hr : ∀ j, row = some j → B ≤ j) (hB : B ≤ w.heap.size) : Below B w w' :=
 ⟨h.os, h.tape, h.output, h.size, fun k hk => h.block k (by omega) (fun e => by have := hr k e.symm; omega)⟩
structure DC (w : World) (N : Nat) (p a b c d : Int) (o : Option Addr) (n m : Nat) (code : Int) : Prop where
 d0 : w.cell? ⟨N, 0, none⟩ = some (.int .i64 p)
 d1 : w.cell? ⟨N, 1, none⟩ = some (.int .i64 a)
 d2 : w.cell? ⟨N, 2, none⟩ = some (.int .i64 b)
 d3 : w.cell? ⟨N, 3, none⟩ = some (.int .i64 c)
 d4 : w.cell? ⟨N, 4, none⟩ = some (.int .i64 d)
 d5 : w.cell? ⟨N, 5, none⟩ = some (.slice o n m)
 d6 : w.cell? ⟨N, 6, none⟩ = some (.int .i64 code)
theorem DC.kept {w w' : World} {N : Nat} {p a b c d : Int} {o : Option Addr} {n m : Nat} {code : Int} (h : DC w N p a b c d o n m code) (hb : w'.heap[N]? = w.heap[N]?) : DC w' N p a b c d o n m code :=
 ⟨(World.cell?_of_block hb).trans h.d0, (World.cell?_of_block hb).trans h.d1, (World.cell?_of_block hb).trans h.d2, (World.cell?_of_block hb).trans h.d3, (World.cell?_of_block hb).trans h.d4, (World.cell?_of_block hb).trans h.d5, (World.cell?_of_block hb).trans h.d6⟩
theorem DC.lt {w : World} {N : Nat} {p a b c d : Int} {o : Option Addr} {n m : Nat} {code : Int} (h : DC w N p a b c d o n m code) : N < w.heap.size := World.block_lt_of_cell? w _ h.d0
theorem DC.new (w : World) (p a b c d : Int) (o : Option Addr) (n m : Nat) (code : Int) (t : TypeId) : DC (w.alloc (.cells #[.int .i64 p, .int .i64 a, .int .i64 b, .int .i64 c, .int .i64 d, .slice o n m, .int .i64 code] t)) w.heap.size p a b c d o n m code :=
 ⟨new_cell _ _ _ 0 rfl, new_cell _ _ _ 1 rfl, new_cell _ _ _ 2 rfl, new_cell _ _ _ 3 rfl, new_cell _ _ _ 4 rfl, new_cell _ _ _ 5 rfl, new_cell _ _ _ 6 rfl⟩
theorem grown7 (w : World) (N : Nat) (v0 v1 v2 v3 v4 v5 v6 : Value) : w.grownBy (((((((w.setCell ⟨N, 0, none⟩ v0).setCell ⟨N, 1, none⟩ v1).setCell ⟨N, 2, none⟩ v2).setCell ⟨N, 3, none⟩ v3).setCell ⟨N, 4, none⟩ v4).setCell ⟨N, 5, none⟩ v5).setCell ⟨N, 6, none⟩ v6) (some N) := by
 repeat (refine grown_setCell ?_ (.inl rfl) _)
 exact World.grownBy.refl _ _
theorem DC.put {w : World} {N : Nat} {p a b c d : Int} {o : Option Addr} {n m : Nat} {code : Int} (h : DC w N p a b c d o n m code) (p' a' b' c' d' : Int) (o' : Option Addr) (n' m' : Nat) (code' : Int) :
  DC (((((((w.setCell ⟨N, 0, none⟩ (.int .i64 p')).setCell ⟨N, 1, none⟩ (.int .i64 a')).setCell ⟨N, 2, none⟩ (.int .i64 b')).setCell ⟨N, 3, none⟩ (.int .i64 c')).setCell ⟨N, 4, none⟩ (.int .i64 d')).setCell ⟨N, 5, none⟩ (.slice o' n' m')).setCell ⟨N, 6, none⟩ (.int .i64 code')) N p' a' b' c' d' o' n' m' code' := by
 obtain ⟨d0, d1, d2, d3, d4, d5, d6⟩ := h
 exact ⟨by go_cell, by go_cell, by go_cell, by go_cell, by go_cell, by go_cell, by go_cell⟩
def AfterR (w : World) (N5 B : Nat) (k : Int) (ra oa : Option Addr) (rc oc : Nat) (a1 a2 a3 a4 : Int) (os : List Int) (ek eq ev : Int) (o1 : Option Addr) (c1 : Nat) (p' b1 b2 b3 b4 : Int) (os' : List Int) (code' : Int) (wx : World) (N : Nat) : Prop :=
 DoBox wx w.heap.size (.int .i64 k) (.slice ra 4 rc) (.slice oa os.length oc) (.int .i64 0) ek eq ev ∧ DC wx N5 k a1 a2 a3 a4 o1 os.length c1 0 ∧ (∃ o2 c2, DC wx N p' b1 b2 b3 b4 o2 os'.length c2 code' ∧ OwnI wx B (.slice o2 os'.length c2) os') ∧ OwnI wx B (.slice o1 os.length c1) os ∧ Below w.heap.size w wx
theorem AfterR.of_alloc {w : World} {N5 B : Nat} {k : Int} {ra oa : Option Addr} {rc oc : Nat} {a1 a2 a3 a4 : Int} {os : List Int} {ek eq ev : Int} {o1 : Option Addr} {c1 : Nat} {p' b1 b2 b3 b4 : Int} {os' : List Int} {code' : Int} {w8 : World} {o2 : Option Addr} {c2 : Nat} (X8 : DoBox w8 w.heap.size (.int .i64 k) (.slice ra 4 rc) (.slice oa os.length oc) (.int .i64 0) ek eq ev) (Y8 : DC w8 N5 k a1 a2 a3 a4 o1 os.length c1 0) (N8 : OwnI w8 B (.slice o2 os'.length c2) os') (M8 : OwnI w8 B (.slice o1 os.length c1) os) (B8 : Below w.heap.size w w8) (t : TypeId) :
  AfterR w N5 B k ra oa rc oc a1 a2 a3 a4 os ek eq ev o1 c1 p' b1 b2 b3 b4 os' code' (w8.alloc (.cells #[.int .i64 p', .int .i64 b1, .int .i64 b2, .int .i64 b3, .int .i64 b4, .slice o2 os'.length c2, .int .i64 code'] t)) w8.heap.size := by
 have ba := below_alloc w8 (.cells #[.int .i64 p', .int .i64 b1, .int .i64 b2, .int .i64 b3, .int .i64 b4, .slice o2 os'.length c2, .int .i64 code'] t)
 exact ⟨X8.below ba, Y8.kept (ba.block N5 Y8.lt), ⟨o2, c2, DC.new w8 _ _ _ _ _ _ _ _ _ _, N8.below ba⟩, M8.below ba, B8.trans (ba.mono B8.size)⟩
theorem AfterR.of_put {w : World} {N5 B : Nat} {k : Int} {ra oa : Option Addr} {rc oc : Nat} {a1 a2 a3 a4 : Int} {os : List Int} {ek eq ev : Int} {o1 : Option Addr} {c1 : Nat} {p' b1 b2 b3 b4 : Int} {os' : List Int} {code' : Int} {w8 : World} {o2 : Option Addr} {c2 N : Nat} (X8 : DoBox w8 w.heap.size (.int .i64 k) (.slice ra 4 rc) (.slice oa os.length oc) (.int .i64 0) ek eq ev) (Y8 : DC w8 N5 k a1 a2 a3 a4 o1 os.length c1 0) (N8 : OwnI w8 B (.slice o2 os'.length c2) os') (M8 : OwnI w8 B (.slice o1 os.length c1) os) (B8 : Below w.heap.size w w8)
  (hN : N5 < N) (h5 : w.heap.size + 1 + 1 < N5) (hZ : DC w8 N 0 0 0 0 0 none 0 0 0) (nM : ∀ j, (Value.slice o1 os.length c1).ownBlock = some j → j ≠ N) (nN : ∀ j, (Value.slice o2 os'.length c2).ownBlock = some j → j ≠ N) :
  AfterR w N5 B k ra oa rc oc a1 a2 a3 a4 os ek eq ev o1 c1 p' b1 b2 b3 b4 os' code' (((((((w8.setCell ⟨N, 0, none⟩ (.int .i64 p')).setCell ⟨N, 1, none⟩ (.int .i64 b1)).setCell ⟨N, 2, none⟩ (.int .i64 b2)).setCell ⟨N, 3, none⟩ (.int .i64 b3)).setCell ⟨N, 4, none⟩ (.int .i64 b4)).setCell ⟨N, 5, none⟩ (.slice o2 os'.length c2)).setCell ⟨N, 6, none⟩ (.int .i64 code')) N := by
 have gz := grown7 w8 N (.int .i64 p') (.int .i64 b1) (.int .i64 b2) (.int .i64 b3) (.int .i64 b4) (.slice o2 os'.length c2) (.int .i64 code')
 have l8 := Y8.lt
 refine ⟨?_, ?_, ⟨o2, c2, ?_, ?_⟩, ?_, ?_⟩
 ·exact X8.kept fun j h1 h2 => gz.block j (by omega) (by simp; omega)
 ·exact Y8.kept (gz.block N5 (by omega) (by simp; omega))
 ·exact hZ.put _ _ _ _ _ _ _ _ _
 ·repeat (refine OwnI.setOther ?_ (fun e => nN _ e rfl) _)
  exact N8
 ·repeat (refine OwnI.setOther ?_ (fun e => nM _ e rfl) _)
  exact M8
 ·exact B8.trans (grown_below gz (fun j hj => by simp at hj; omega) B8.size)
def settledS (len : Nat) (p a b c d : Int) (os : List Int) (p' a' b' c' d' : Int) (os' : List Int) (code' : Int) : S4 :=
 if regsB [a', b', c', d'] = false ∨ (60 : Int) < (os'.length : Int) then ⟨p, [a, b, c, d], os, 2⟩ else if belB p' len = false then ⟨p, [a', b', c', d'], os', 2⟩ else ⟨p', [a', b', c', d'], os', code'⟩
theorem doIn_no (b off len cap : Nat) (g : Nat → I5) (p code : Int) (ra oa : Option Addr) (rc oc : Nat) (rs os : List Int) (ek eq ev : Int) (w : World) (hlen : len ≤ maxLen) (hb : b < w.heap.size) (hI : InsAt w b off len g) (hr : rs.length ≤ 1048576) (ho : os.length ≤ 1048576) (h1 : Sl w ra rs) (h2 : Sl w oa os) (hD : canB (nxK g len p rs os code) (nxP g len p rs os code) (nxW g len p rs os code) ek eq ev = false) (hP : progOkB g len 4 = true) :
  Calls Tryz.prog 149 #[.slice (some ⟨b, off, none⟩) len cap, stV p ra rs.length rc oa os.length oc code, evV ek eq ev] w (DoneR w ⟨p, rs, os, code⟩ false) := by
 have HI : Hid (InsAt w b off len g) := hI
 have H1 : Hid (Sl w ra rs) := h1
 have H2 : Hid (Sl w oa os) := h2
 have HL : Hid (len ≤ maxLen) := hlen
 have HP : Hid (progOkB g len 4 = true) := hP
 clear hI h1 h2 hlen hP
 go_enter Tryz.func149, Tryz.ntmps149
 go_wp2_with fail
 have X := DoBox.new w (.int .i64 (p)) (.slice ra rs.length rc) (.slice oa os.length oc) (.int .i64 code) ek eq ev 123 106 123
 have BW : Hid (Below w.heap.size w (((w.alloc (oQ1 p ra rs.length rc oa os.length oc code)).alloc (oQ0 ek eq ev)).alloc (zQ0))) := by
  show Below _ _ _
  go_grown
 generalize (((w.alloc (oQ1 p ra rs.length rc oa os.length oc code)).alloc (oQ0 ek eq ev)).alloc (zQ0)) = W at *
 have HX : Hid (DoBox W w.heap.size (.int .i64 (p)) (.slice ra rs.length rc) (.slice oa os.length oc) (.int .i64 code) ek eq ev) := X
 have l2 := X.lt
 obtain ⟨p0, p1, p2, p3, e0, e1, e2, r0, r1, r2, r3, rf⟩ := X
 have p0' := cell_regrown p0
 have p1' := cell_regrown p1
 have p2' := cell_regrown p2
 have p3' := cell_regrown p3
 have e0' := cell_regrown e0
 have e1' := cell_regrown e1
 have e2' := cell_regrown e2
 have HB' : Hid (∀ d os', Below w.heap.size w (grow (redrawn W d) os')) := fun d os' => BW.out.trans ((below_regrown W d os').mono BW.out.size)
 clear p0 p1 p2 p3 e0 e1 e2 r0 r1 r2 r3 rf
 refine wp_region_quiet_below (by kernel_rfl) (by kernel_rfl) ?_
 repeat (quiet_step (first | (go_at_call 145; exact Calls.regrown_of (nextIn_any b off len cap g (p) code ra oa rc oc rs os _ HL.out (Nat.lt_of_lt_of_le hb (HB'.out _ _).size) (HI.out.below (HB'.out _ _) hb) ho (H1.out.below (HB'.out _ _)) (H2.out.below (HB'.out _ _)) HP.out)) | (go_at_call 198; exact Calls.regrown_of (canCome_any _ _ _ _ _ _ _))))
 refine wpQuiet_nil ?_
 intro _ hw'
 obtain ⟨⟨dq, osq⟩, hw''⟩ := hw'
 subst hw''
 have b3 := below_regrown W dq osq
 have B3 : Hid (Below w.heap.size w (grow (redrawn W dq) osq)) := BW.out.trans (b3.mono BW.out.size)
 have X := HX.out.below b3
 have l3 := X.lt
 generalize grow (redrawn W dq) osq = w3 at *
 clear b3 p0' p1' p2' p3' e0' e1' e2' BW HB' l2 HX
 obtain ⟨p0, p1, p2, p3, e0, e1, e2, r0, r1, r2, r3, rf⟩ := X
 go_wp2_with fail
 refine (copyState_any p code ra oa rc oc rs os _ hr ho (H1.out.below B3.out) (H2.out.below B3.out)).mono ?_
 rintro e w4 ⟨v, rfl, o4, b4⟩
 obtain ⟨ra2, rc2, oa2, oc2, rfl, -, -⟩ := o4.read
 obtain ⟨hc4, hf4⟩ := bcell b4
 have O4 : Hid (StOwn w4 w3.heap.size (stV p ra2 rs.length rc2 oa2 os.length oc2 code) p rs os code) := o4
 have B4 : Hid (Below w.heap.size w w4) := B3.out.trans (b4.mono B3.out.size)
 clear o4 b4
 go_wp2
 refine bodyPost_ret (v := .tuple #[stV p ra2 rs.length rc2 oa2 os.length oc2 code, .bool false]) (by simp [results, Tryz.results149, go_sem, hc4, l3, r0, r1, r2, r3]) rfl ⟨_, rfl, ?_, ?_⟩
 ·exact StOwn.put4 (B' := w3.heap.size) O4.out l3 (by omega)
 ·have := B4.out
  go_grown
theorem settled_any (p a b c d : Int) (oa : Option Addr) (oc : Nat) (os : List Int) (code p' a' b' c' d' : Int) (oa' : Option Addr) (oc' : Nat) (os' : List Int) (code' : Int) (n B : Nat) (w : World) (h1 : OwnI w B (.slice oa os.length oc) os) (h2 : OwnI w B (.slice oa' os'.length oc') os') (S : S4) (hS : settledS n p a b c d os p' a' b' c' d' os' code' = S) :
  Calls Tryz.prog 201 #[dV p a b c d oa os.length oc code, dV p' a' b' c' d' oa' os'.length oc' code', .int .i64 n] w fun e w' => ∃ o3 c3 x1 x2 x3 x4, e = .returned (dV S.p x1 x2 x3 x4 o3 S.os.length c3 S.c) ∧ S.rs = [x1, x2, x3, x4] ∧ OwnI w' B (.slice o3 S.os.length c3) S.os ∧ Below w.heap.size w w' := by
 subst hS
 unfold settledS
 rcases Bool.eq_false_or_eq_true (regsB [a', b', c', d']) with hr | hr
 ·by_cases hn : (60 : Int) < (os'.length : Int)
  ·rw [if_pos (.inr hn)]
   refine (settled_full _ _ _ _ _ _ _ _ _ _ _ _ _ _ _ _ _ _ _ _ hr hn).mono ?_
   rintro e w1 ⟨rfl, b1⟩
   exact ⟨_, _, _, _, _, _, rfl, rfl, h1.below b1, b1⟩
  ·rw [if_neg (by simp [hr, hn])]
   rcases Bool.eq_false_or_eq_true (belB p' n) with hp | hp
   ·rw [if_neg (by simp [hp])]
    refine (settled_ok _ _ _ _ _ _ _ _ _ _ _ _ _ _ _ _ _ _ _ _ hr hn hp).mono ?_
    rintro e w1 ⟨rfl, b1⟩
    exact ⟨_, _, _, _, _, _, rfl, rfl, h2.below b1, b1⟩
   ·rw [if_pos hp]
    refine (settled_out _ _ _ _ _ _ _ _ _ _ _ _ _ _ _ _ _ _ _ _ hr hn hp).mono ?_
    rintro e w1 ⟨rfl, b1⟩
    exact ⟨_, _, _, _, _, _, rfl, rfl, h2.below b1, b1⟩
 ·rw [if_pos (.inl hr)]
  refine (settled_regs _ _ _ _ _ _ _ _ _ _ _ _ _ _ _ _ _ _ _ _ hr).mono ?_
  rintro e w1 ⟨rfl, b1⟩
  exact ⟨_, _, _, _, _, _, rfl, rfl, h1.below b1, b1⟩
theorem doIn_step (b off len cap k : Nat) (g : Nat → I5) (ra oa : Option Addr) (rc oc : Nat) (a1 a2 a3 a4 : Int) (os : List Int) (ek eq ev : Int) (w : World) (F : FuncId) (hE : ∀ args wx, (callFunc F args).run Tryz.prog wx = .ok (.enter F args) wx) (p' b1 b2 b3 b4 : Int) (os' : List Int) (code' : Int) (hlen : len ≤ maxLen) (hb : b < w.heap.size) (hI : InsAt w b off len g) (ho : os.length ≤ 60) (h1 : Sl w ra [a1, a2, a3, a4]) (h2 : Sl w oa os) (hk : k < len) (hD : canB (nxK g len k [a1, a2, a3, a4] os 0) (nxP g len k [a1, a2, a3, a4] os 0) (nxW g len k [a1, a2, a3, a4] os 0) ek eq ev = true)
  (hF : ∀ wx, Calls Tryz.prog 200 #[.int .i64 (g k).o] wx fun e w' => e = .returned (.func (.func F) #[] #[]) ∧ Below wx.heap.size wx w')
  (hS : ∀ (o1 : Option Addr) (c1 B : Nat) (wx : World), B ≤ wx.heap.size → OwnI wx B (.slice o1 os.length c1) os → Calls Tryz.prog F #[dV k a1 a2 a3 a4 o1 os.length c1 0, insV (g k).o (g k).r (g k).a (g k).b (g k).n, evV ek eq ev] wx (StepR wx B (.slice o1 os.length c1) os p' b1 b2 b3 b4 os' code')) :
  Calls Tryz.prog 149 #[.slice (some ⟨b, off, none⟩) len cap, stV k ra 4 rc oa os.length oc 0, evV ek eq ev] w (DoneR w (settledS len k a1 a2 a3 a4 os p' b1 b2 b3 b4 os' code') true) := by
 have HI : Hid (InsAt w b off len g) := hI
 have H1 : Hid (Sl w ra [a1, a2, a3, a4]) := h1
 have H2 : Hid (Sl w oa os) := h2
 have HL : Hid (len ≤ maxLen) := hlen
 have HP : Hid (progOkB g len 4 = true) := (right_parts (doB_right hD)).1
 have HF : Hid (∀ wx, Calls Tryz.prog 200 #[.int .i64 (g k).o] wx fun e w' => e = .returned (.func (.func F) #[] #[]) ∧ Below wx.heap.size wx w') := hF
 have HS : Hid (∀ (o1 : Option Addr) (c1 B : Nat) (wx : World), B ≤ wx.heap.size → OwnI wx B (.slice o1 os.length c1) os → Calls Tryz.prog F #[dV k a1 a2 a3 a4 o1 os.length c1 0, insV (g k).o (g k).r (g k).a (g k).b (g k).n, evV ek eq ev] wx (StepR wx B (.slice o1 os.length c1) os p' b1 b2 b3 b4 os' code')) := hS
 have ho' := ho
 replace ho : os.length ≤ 1048576 := by omega
 have hk' : (k : Int) < (len : Int) := by omega
 have hl' : (len : Int) ≤ 9223372036854775807 := by have := HL.out; unfold maxLen at this; omega
 clear hI h1 h2 hlen hF hS
 generalize hT : settledS len k a1 a2 a3 a4 os p' b1 b2 b3 b4 os' code' = S
 have HT : Hid (settledS len k a1 a2 a3 a4 os p' b1 b2 b3 b4 os' code' = S) := hT
 clear hT
 go_enter Tryz.func149, Tryz.ntmps149
 go_wp2_with fail
 have X := DoBox.new w (.int .i64 (k)) (.slice ra 4 rc) (.slice oa os.length oc) (.int .i64 0) ek eq ev 123 106 123
 have BW : Hid (Below w.heap.size w (((w.alloc (oQ1 k ra 4 rc oa os.length oc 0)).alloc (oQ0 ek eq ev)).alloc (zQ0))) := by
  show Below _ _ _
  go_grown
 generalize (((w.alloc (oQ1 k ra 4 rc oa os.length oc 0)).alloc (oQ0 ek eq ev)).alloc (zQ0)) = W at *
 have HX : Hid (DoBox W w.heap.size (.int .i64 (k)) (.slice ra 4 rc) (.slice oa os.length oc) (.int .i64 0) ek eq ev) := X
 have l2 := X.lt
 obtain ⟨p0, p1, p2, p3, e0, e1, e2, r0, r1, r2, r3, rf⟩ := X
 have p0' := cell_regrown p0
 have p1' := cell_regrown p1
 have p2' := cell_regrown p2
 have p3' := cell_regrown p3
 have e0' := cell_regrown e0
 have e1' := cell_regrown e1
 have e2' := cell_regrown e2
 have HB' : Hid (∀ d os', Below w.heap.size w (grow (redrawn W d) os')) := fun d os' => BW.out.trans ((below_regrown W d os').mono BW.out.size)
 clear p0 p1 p2 p3 e0 e1 e2 r0 r1 r2 r3 rf
 refine wp_region_quiet_below (by kernel_rfl) (by kernel_rfl) ?_
 repeat (quiet_step (first | (go_at_call 145; exact Calls.regrown_of (nextIn_any b off len cap g (k) 0 ra oa rc oc [a1, a2, a3, a4] os _ HL.out (Nat.lt_of_lt_of_le hb (HB'.out _ _).size) (HI.out.below (HB'.out _ _) hb) ho (H1.out.below (HB'.out _ _)) (H2.out.below (HB'.out _ _)) HP.out)) | (go_at_call 198; exact Calls.regrown_of (canCome_any _ _ _ _ _ _ _))))
 refine wpQuiet_nil ?_
 intro _ hw'
 obtain ⟨⟨dq, osq⟩, hw''⟩ := hw'
 subst hw''
 have b3 := below_regrown W dq osq
 have B3 : Hid (Below w.heap.size w (grow (redrawn W dq) osq)) := BW.out.trans (b3.mono BW.out.size)
 have X := HX.out.below b3
 have l3 := X.lt
 generalize grow (redrawn W dq) osq = w3 at *
 clear b3 p0' p1' p2' p3' e0' e1' e2' BW HB' l2 HX
 obtain ⟨p0, p1, p2, p3, e0, e1, e2, r0, r1, r2, r3, rf⟩ := X
 clear hD
 obtain ⟨c0, c1, c2, c3, c4⟩ := HI.out.below B3.out hb k hk
 have X3 : DoBox w3 w.heap.size (.int .i64 k) (.slice ra 4 rc) (.slice oa os.length oc) (.int .i64 0) ek eq ev := ⟨p0, p1, p2, p3, e0, e1, e2, r0, r1, r2, r3, rf⟩
 have bX := below_alloc w3 (oQ2 (g k).o (g k).r (g k).a (g k).b (g k).n)
 have X4 : Hid (DoBox (w3.alloc (oQ2 (g k).o (g k).r (g k).a (g k).b (g k).n)) w.heap.size (.int .i64 k) (.slice ra 4 rc) (.slice oa os.length oc) (.int .i64 0) ek eq ev) := X3.below bX
 have B4 : Hid (Below w.heap.size w (w3.alloc (oQ2 (g k).o (g k).r (g k).a (g k).b (g k).n))) := B3.out.trans (bX.mono B3.out.size)
 obtain ⟨q0, q1, q2, q3, -, -, -, -, -, -, -, -⟩ := X4.out
 clear X3 bX
 go_wp2_with fail
 have i0 : (w3.alloc (oQ2 (g k).o (g k).r (g k).a (g k).b (g k).n)).cell? ⟨w3.heap.size, 0, none⟩ = some (.int .i64 (g k).o) := new_cell _ _ _ 0 rfl
 have i1 : (w3.alloc (oQ2 (g k).o (g k).r (g k).a (g k).b (g k).n)).cell? ⟨w3.heap.size, 1, none⟩ = some (.int .i64 (g k).r) := new_cell _ _ _ 1 rfl
 have i2 : (w3.alloc (oQ2 (g k).o (g k).r (g k).a (g k).b (g k).n)).cell? ⟨w3.heap.size, 2, none⟩ = some (.int .i64 (g k).a) := new_cell _ _ _ 2 rfl
 have i3 : (w3.alloc (oQ2 (g k).o (g k).r (g k).a (g k).b (g k).n)).cell? ⟨w3.heap.size, 3, none⟩ = some (.int .i64 (g k).b) := new_cell _ _ _ 3 rfl
 have i4 : (w3.alloc (oQ2 (g k).o (g k).r (g k).a (g k).b (g k).n)).cell? ⟨w3.heap.size, 4, none⟩ = some (.int .i64 (g k).n) := new_cell _ _ _ 4 rfl
 have zX : w3.heap.size < (w3.alloc (oQ2 (g k).o (g k).r (g k).a (g k).b (g k).n)).heap.size := by simp
 clear p0 p1 p2 p3 e0 e1 e2 r0 r1 r2 r3 rf c0 c1 c2 c3 c4 q0 q1 q2 q3
 generalize w3.alloc (oQ2 (g k).o (g k).r (g k).a (g k).b (g k).n) = W4 at *
 generalize w3.heap.size = N3 at *
 refine (doingOf_any (k : Int) 0 ra oa rc oc a1 a2 a3 a4 os _ ho (H1.out.below B4.out) (H2.out.below B4.out)).mono ?_
 rintro e w5 ⟨o1, c1, rfl, o5, b5⟩
 have X5 : Hid (DoBox w5 w.heap.size (.int .i64 k) (.slice ra 4 rc) (.slice oa os.length oc) (.int .i64 0) ek eq ev) := X4.out.below b5
 have B5 : Hid (Below w.heap.size w w5) := B4.out.trans (b5.mono B4.out.size)
 have O5 : Hid (OwnI w5 W4.heap.size (.slice o1 os.length c1) os) := o5
 obtain ⟨hc5, -⟩ := bcell b5
 replace i0 := (hc5 _ 0 zX).trans i0
 replace i1 := (hc5 _ 1 zX).trans i1
 replace i2 := (hc5 _ 2 zX).trans i2
 replace i3 := (hc5 _ 3 zX).trans i3
 replace i4 := (hc5 _ 4 zX).trans i4
 have z5 : W4.heap.size ≤ w5.heap.size := b5.size
 clear hc5 b5 o5 X4 B4 B3
 go_wp2_with fail
 have bY := below_alloc w5 (oQ3 k a1 a2 a3 a4 o1 os.length c1 0)
 have X6 : Hid (DoBox (w5.alloc (oQ3 k a1 a2 a3 a4 o1 os.length c1 0)) w.heap.size (.int .i64 k) (.slice ra 4 rc) (.slice oa os.length oc) (.int .i64 0) ek eq ev) := X5.out.below bY
 have Y6 : Hid (DC (w5.alloc (oQ3 k a1 a2 a3 a4 o1 os.length c1 0)) w5.heap.size k a1 a2 a3 a4 o1 os.length c1 0) := DC.new w5 _ _ _ _ _ _ _ _ _ _
 have B6 : Hid (Below w.heap.size w (w5.alloc (oQ3 k a1 a2 a3 a4 o1 os.length c1 0))) := B5.out.trans (bY.mono B5.out.size)
 have O6 : Hid (OwnI (w5.alloc (oQ3 k a1 a2 a3 a4 o1 os.length c1 0)) W4.heap.size (.slice o1 os.length c1) os) := O5.out.below bY
 have LO : Hid (∀ j, (Value.slice o1 os.length c1).ownBlock = some j → W4.heap.size ≤ j ∧ j < w5.heap.size) := fun j hj => O5.out.lt j hj
 have l5 : N3 < w5.heap.size := by omega
 obtain ⟨hcY, -⟩ := bcell bY
 replace i0 := (hcY _ 0 l5).trans i0
 replace i1 := (hcY _ 1 l5).trans i1
 replace i2 := (hcY _ 2 l5).trans i2
 replace i3 := (hcY _ 3 l5).trans i3
 replace i4 := (hcY _ 4 l5).trans i4
 have z6 : w5.heap.size < (w5.alloc (oQ3 k a1 a2 a3 a4 o1 os.length c1 0)).heap.size := by simp
 clear X5 B5 O5 bY hcY
 generalize w5.alloc (oQ3 k a1 a2 a3 a4 o1 os.length c1 0) = W6 at *
 generalize w5.heap.size = N5 at *
 obtain ⟨j0, j1, j2, j3, j4, j5, j6⟩ := Y6.out
 obtain ⟨-, -, -, -, e0, e1, e2, -, -, -, -, -⟩ := X6.out
 have g1 : N3 < W6.heap.size := by omega
 have g2 : w.heap.size + 1 < W6.heap.size := by omega
 have d61 : W6.heap.size ≠ N3 := by omega
 have d62 : W6.heap.size ≠ N5 := by omega
 have d63 : W6.heap.size ≠ w.heap.size + 1 := by omega
 have z6' : N5 ≤ W6.heap.size := Nat.le_of_lt z6
 go_cut [10] from 26 to 32 (fun s wx => ∃ N : Nat, s = .pointer (some ⟨N, 0, none⟩) ∧ Hid (AfterR w N5 W4.heap.size k ra oa rc oc a1 a2 a3 a4 os ek eq ev o1 c1 p' b1 b2 b3 b4 os' code' wx N))
 case first =>
  go_region_held3 (fun w' => w'.cell? ⟨N3, 0, none⟩ = some (.int .i64 (g k).o) ∧ w'.cell? ⟨N3, 1, none⟩ = some (.int .i64 (g k).r) ∧ w'.cell? ⟨N3, 2, none⟩ = some (.int .i64 (g k).a) ∧ w'.cell? ⟨N3, 3, none⟩ = some (.int .i64 (g k).b) ∧ w'.cell? ⟨N3, 4, none⟩ = some (.int .i64 (g k).n) ∧ w'.cell? ⟨N5, 0, none⟩ = some (.int .i64 k) ∧ w'.cell? ⟨N5, 1, none⟩ = some (.int .i64 a1) ∧ w'.cell? ⟨N5, 2, none⟩ = some (.int .i64 a2) ∧ w'.cell? ⟨N5, 3, none⟩ = some (.int .i64 a3) ∧ w'.cell? ⟨N5, 4, none⟩ = some (.int .i64 a4) ∧ w'.cell? ⟨N5, 5, none⟩ = some (.slice o1 os.length c1) ∧ w'.cell? ⟨N5, 6, none⟩ = some (.int .i64 0) ∧ w'.cell? ⟨w.heap.size + 1, 0, none⟩ = some (.int .i64 ek) ∧ w'.cell? ⟨w.heap.size + 1, 1, none⟩ = some (.int .i64 eq) ∧ w'.cell? ⟨w.heap.size + 1, 2, none⟩ = some (.int .i64 ev)) (go_keep)
   (first
    | (go_at_call 200; refine (HF.out _).mono ?_; rintro e w7 ⟨rfl, b7⟩; have q7 : Below W6.heap.size W6 w7 := below_up (by go_grown) b7 (by simp); obtain ⟨hc7, hf7⟩ := bcell b7; obtain ⟨hq7, -⟩ := bcell q7; have t0 := (hq7 (N3) 0 g1).trans i0; have t1 := (hq7 (N3) 1 g1).trans i1; have t2 := (hq7 (N3) 2 g1).trans i2; have t3 := (hq7 (N3) 3 g1).trans i3; have t4 := (hq7 (N3) 4 g1).trans i4; have t5 := (hq7 (N5) 0 z6).trans j0; have t6 := (hq7 (N5) 1 z6).trans j1; have t7 := (hq7 (N5) 2 z6).trans j2; have t8 := (hq7 (N5) 3 z6).trans j3; have t9 := (hq7 (N5) 4 z6).trans j4; have t10 := (hq7 (N5) 5 z6).trans j5; have t11 := (hq7 (N5) 6 z6).trans j6; have t12 := (hq7 (w.heap.size + 1) 0 g2).trans e0; have t13 := (hq7 (w.heap.size + 1) 1 g2).trans e1; have t14 := (hq7 (w.heap.size + 1) 2 g2).trans e2; clear hq7; have Q7 : Hid (Below W6.heap.size W6 w7) := q7; have l71 : N3 < w7.heap.size := Nat.lt_of_lt_of_le g1 q7.size; have l72 : N5 < w7.heap.size := Nat.lt_of_lt_of_le z6 q7.size; have l73 : w.heap.size + 1 < w7.heap.size := Nat.lt_of_lt_of_le g2 q7.size; have l75 : N5 ≤ w7.heap.size := Nat.le_of_lt l72; have l74 := b7.size; (try simp only [World.size_alloc, World.size_drew, Nat.add_one_le_iff] at l74); have d71 : w7.heap.size ≠ N3 := Nat.ne_of_gt l71; have d72 : w7.heap.size ≠ N5 := Nat.ne_of_gt l72; have d73 : w7.heap.size ≠ w.heap.size + 1 := Nat.ne_of_gt l73; have O7 : Hid (OwnI w7 W4.heap.size (.slice o1 os.length c1) os) := O6.out.below q7; clear b7 q7)
    | (refine (HS.out o1 c1 W4.heap.size _ (by have := Q7.out.size; simp; omega) (O7.out.below (by go_grown))).mono ?_; rintro e w8 ⟨o2, c2, rfl, n8, m8, g8, a8⟩; (try simp only [World.size_alloc] at a8); have A8 : Hid (_) := a8; have ne8 : ∀ j, (j < W4.heap.size ∨ N5 ≤ j) → some j ≠ (Value.slice o1 os.length c1).ownBlock := (fun j hj h => by have := LO.out j h.symm; omega); have q8 := (grown_any (grown_of_below (show Below w7.heap.size w7 _ by go_grown)) (Value.slice o1 os.length c1).ownBlock).trans g8; have v3 := gcell q8 (b := N3) l71 (ne8 _ (.inl zX)); have v5 := gcell q8 (b := N5) l72 (ne8 _ (.inr (Nat.le_refl _))); have v1 := gcell q8 (b := w.heap.size + 1) l73 (ne8 _ (.inl (by omega))); have s0 := (v3.1 0).trans t0; have s1 := (v3.1 1).trans t1; have s2 := (v3.1 2).trans t2; have s3 := (v3.1 3).trans t3; have s4 := (v3.1 4).trans t4; have s5 := (v5.1 0).trans t5; have s6 := (v5.1 1).trans t6; have s7 := (v5.1 2).trans t7; have s8 := (v5.1 3).trans t8; have s9 := (v5.1 4).trans t9; have s10 := (v5.1 5).trans t10; have s11 := (v5.1 6).trans t11; have s12 := (v1.1 0).trans t12; have s13 := (v1.1 1).trans t13; have s14 := (v1.1 2).trans t14; have hc8 := fun b o hb hn => (gcell g8 (b := b) hb (ne8 _ (.inr hn))).1 o; have hf8 := fun b o hb hn => (gcell g8 (b := b) hb (ne8 _ (.inr hn))).2 o; have N8 : Hid (OwnI w8 W4.heap.size (.slice o2 os'.length c2) os') := n8; have M8 : Hid (OwnI w8 W4.heap.size (.slice o1 os.length c1) os) := m8; have G8 : Hid (w7.grownBy w8 (Value.slice o1 os.length c1).ownBlock) := q8; clear n8 m8 g8 q8 a8 v3 v5 v1 ne8))
  all_goals
   go_wp2_with fail
   go_meet
   case rel =>
    have K8 : ∀ j, j < W6.heap.size → (j < W4.heap.size ∨ N5 ≤ j) → w8.heap[j]? = W6.heap[j]? := fun j h1 h2 => (G8.out.block j (by have := Q7.out.size; omega) (fun h => by have := LO.out j h.symm; omega)).trans (Q7.out.block j h1)
    have X8 := X6.out.kept (w' := w8) fun j h1 h2 => K8 j (by omega) (.inl (by omega))
    have Y8 := Y6.out.kept (w' := w8) (K8 N5 z6 (.inr (Nat.le_refl _)))
    have B8 : Below w.heap.size w w8 := (B6.out.trans (Q7.out.mono B6.out.size)).trans (grown_below G8.out (fun j hj => by have := LO.out j hj; omega) (by have := (B6.out.trans (Q7.out.mono B6.out.size)).size; omega))
    have zz8 : w7.heap.size ≤ w8.heap.size := G8.out.size
    first
    | (refine ⟨w8.heap.size, by with_reducible rfl, ?_⟩
       exact AfterR.of_alloc X8 Y8 N8.out M8.out B8 _)
    | (refine ⟨w7.heap.size, by with_reducible rfl, ?_⟩
       have nM : ∀ j, (Value.slice o1 os.length c1).ownBlock = some j → j ≠ w7.heap.size := fun j hj => by have := LO.out j hj; omega
       exact AfterR.of_put X8 Y8 N8.out M8.out B8 (by omega) (by omega) ⟨by rw [hc8 _ _ (by simp) l75]; simp, by rw [hc8 _ _ (by simp) l75]; simp, by rw [hc8 _ _ (by simp) l75]; simp, by rw [hc8 _ _ (by simp) l75]; simp, by rw [hc8 _ _ (by simp) l75]; simp, by rw [hc8 _ _ (by simp) l75]; simp, by rw [hc8 _ _ (by simp) l75]; simp⟩ nM (fun j hj => by
       rcases A8.out j hj with h | h
       ·exact nM j h
       ·omega))
    | (refine ⟨W6.heap.size, by with_reducible rfl, ?_⟩
       have nM : ∀ j, (Value.slice o1 os.length c1).ownBlock = some j → j ≠ W6.heap.size := fun j hj => by have := LO.out j hj; omega
       exact AfterR.of_put X8 Y8 N8.out M8.out B8 (by omega) (by omega) ⟨by rw [hc8 _ _ (by simpa using l74) z6', hc7 _ _ (by simp)]; simp, by rw [hc8 _ _ (by simpa using l74) z6', hc7 _ _ (by simp)]; simp, by rw [hc8 _ _ (by simpa using l74) z6', hc7 _ _ (by simp)]; simp, by rw [hc8 _ _ (by simpa using l74) z6', hc7 _ _ (by simp)]; simp, by rw [hc8 _ _ (by simpa using l74) z6', hc7 _ _ (by simp)]; simp, by rw [hc8 _ _ (by simpa using l74) z6', hc7 _ _ (by simp)]; simp, by rw [hc8 _ _ (by simpa using l74) z6', hc7 _ _ (by simp)]; simp⟩ nM (fun j hj => by
       rcases A8.out j hj with h | h
       ·exact nM j h
       ·omega))
 case rest =>
  obtain ⟨N, rfl, HA⟩ := hcut
  obtain ⟨XC, YC, ⟨o2, c2, ZC, NC⟩, MC, BC⟩ := HA.out
  have HXC : Hid (DoBox wc w.heap.size (.int .i64 k) (.slice ra 4 rc) (.slice oa os.length oc) (.int .i64 0) ek eq ev) := XC
  have HNC : Hid (OwnI wc W4.heap.size (.slice o2 os'.length c2) os') := NC
  have HMC : Hid (OwnI wc W4.heap.size (.slice o1 os.length c1) os) := MC
  have HBC : Hid (Below w.heap.size w wc) := BC
  have zC : W4.heap.size ≤ wc.heap.size := by have := YC.lt; omega
  clear HA XC NC MC BC i0 i1 i2 i3 i4 j0 j1 j2 j3 j4 j5 j6 e0 e1 e2 X6 Y6 B6 O6
  obtain ⟨j0, j1, j2, j3, j4, j5, j6⟩ := YC
  obtain ⟨i0, i1, i2, i3, i4, i5, i6⟩ := ZC
  go_wp2_with fail
  refine (settled_any (k : Int) a1 a2 a3 a4 o1 c1 os 0 p' b1 b2 b3 b4 o2 c2 os' code' len W4.heap.size wc HMC.out HNC.out S HT.out).mono ?_
  rintro e w9 ⟨o3, c3, x1, x2, x3, x4, rfl, hrs, o9, b9⟩
  have X9 : Hid (DoBox w9 w.heap.size (.int .i64 k) (.slice ra 4 rc) (.slice oa os.length oc) (.int .i64 0) ek eq ev) := HXC.out.below b9
  have B9 : Hid (Below w.heap.size w w9) := HBC.out.trans (b9.mono HBC.out.size)
  have O9 : Hid (OwnI w9 W4.heap.size (.slice o3 S.os.length c3) S.os) := o9
  have z9 : W4.heap.size ≤ w9.heap.size := Nat.le_trans zC b9.size
  have HRS : Hid (S.rs = [x1, x2, x3, x4]) := hrs
  clear o9 b9 hrs j0 j1 j2 j3 j4 j5 j6 i0 i1 i2 i3 i4 i5 i6 HXC HNC HMC HBC
  go_wp2_with fail
  refine (state_any S.p x1 x2 x3 x4 o3 c3 S.os S.c W4.heap.size w9 z9 O9.out).mono ?_
  rintro e w10 ⟨v, rfl, o10, b10⟩
  rw [← HRS.out] at o10
  have B10 : Hid (Below w.heap.size w w10) := B9.out.trans (b10.mono B9.out.size)
  obtain ⟨-, -, -, -, -, -, -, r0, r1, r2, r3, rf⟩ := X9.out.below b10
  obtain ⟨ra2, rc2, oa2, oc2, rfl, -, -⟩ := o10.read
  have O10 : Hid (StOwn w10 W4.heap.size (stV S.p ra2 S.rs.length rc2 oa2 S.os.length oc2 S.c) S.p S.rs S.os S.c) := o10
  clear o10 b10
  go_wp2
  refine bodyPost_ret (v := .tuple #[stV S.p ra2 S.rs.length rc2 oa2 S.os.length oc2 S.c, .bool true]) (by simp [results, Tryz.results149, go_sem, r0, r1, r2, r3]) rfl ⟨_, rfl, ?_, ?_⟩
  ·exact StOwn.put4 (B' := W4.heap.size) O10.out (by omega) (by omega)
  ·have := B10.out
   go_grown
theorem specStateNew_any (w : World) :
  Calls Tryz.prog 204 #[] w fun e w' => ∃ v, e = .returned v ∧ StOwn w' w.heap.size v 0 [0, 0, 0, 0] [] 0 ∧ Below w.heap.size w w' := by
 have hmk : ∀ w : World, (Instr.makeSlice 35 (.int .i64 4) (.int .i64 4)).run Tryz.prog w = .ok (.slice (some ⟨w.heap.size, 0, none⟩) 4 4) (w.alloc (.cells (madeCells #[.int .i64 0] 4) 3)) := fun w => run_make_int 4 (by omega) w
 have HM : Hid (∀ w : World, OwnI (w.alloc (.cells (madeCells #[.int .i64 0] 4) 3)) w.heap.size (.slice (some ⟨w.heap.size, 0, none⟩) 4 4) [0, 0, 0, 0]) := fun w => made_own w 4 (by omega)
 go_enter Tryz.func204, Tryz.ntmps204
 go_wp2
 have hB : w.heap.size ≤ w.heap.size + 1 := by omega
 have hM := HM.out (w.alloc (oQ1 0 (some ⟨w.heap.size + 1, 0, none⟩) 4 4 none 0 0 0))
 rw [World.size_alloc] at hM
 refine bodyPost_ret (v := stV 0 (some ⟨w.heap.size + 1, 0, none⟩) 4 4 none 0 0 0) (by simp [results, Tryz.results204, go_sem]) rfl ⟨_, rfl, ⟨_, _, rfl, hM.mono hB, World.ownsRow_nil _ _ _ _, fun k _ => by simp [Value.ownBlock]⟩, by go_grown⟩
theorem Tl.widen {w : World} {B C C' N : Nat} {p c : Int} {ra : Option Addr} {rn rc : Nat} {oa : Option Addr} {on oc : Nat} {rs os : List Int} (h : Tl w B C N p c ra rn rc oa on oc rs os) (h1 : C ≤ C') (h2 : C' ≤ w.heap.size) : Tl w B C' N p c ra rn rc oa on oc rs os :=
 ⟨h.lo, Nat.lt_of_lt_of_le h.hi h1, h2, h.box, h.own, fun k hk => Nat.lt_of_lt_of_le (h.up k hk) h1, h.ne⟩
open Go.Deep
theorem valL_length (eh : Nat → E3) (kd pr : Int) (n : Nat) : (valL eh kd pr n).length = (plN eh kd pr n).length := by simp [valL]
theorem plI_length (eh : Nat → E3) (kd pr : Int) (n : Nat) : (plI eh kd pr n).length = (plN eh kd pr n).length := by simp [plI]
def nthV (eh : Nat → E3) (kd pr : Int) (len : Nat) (n : Int) : Int := if belB n ((plI eh kd pr len).length : Nat) = true then zi (plI eh kd pr len) n.toNat else -1
theorem plN_mem (eh : Nat → E3) (kd pr : Int) : ∀ n, ∀ q ∈ plN eh kd pr n, q < n
 | 0, q, h => by simp [plN] at h
 | n + 1, q, h => by
  unfold plN at h
  split at h
  ·simp at h
   rcases h with h | h
   ·have := plN_mem eh kd pr n q h
    omega
   ·omega
  ·have := plN_mem eh kd pr n q h
   omega
theorem plI_place (eh : Nat → E3) (kd pr : Int) (len j : Nat) (hj : j < (plI eh kd pr len).length) : ∃ q : Nat, zi (plI eh kd pr len) j = (q : Int) ∧ q < len ∧ (plN eh kd pr len)[j]? = some q := by
 have hj' : j < (plN eh kd pr len).length := by rw [plI_length] at hj; exact hj
 refine ⟨(plN eh kd pr len)[j], ?_, plN_mem eh kd pr len _ (List.getElem_mem hj'), List.getElem?_eq_getElem hj'⟩
 unfold zi plI
 rw [List.getD_eq_getElem?_getD, List.getElem?_map, List.getElem?_eq_getElem hj']
 rfl
theorem append_far {ops : Array Oper} {rest : List Oper} {op : Oper} {act : Act} {Q : Exit → Act → World → Prop} (w : World) (hgd : op.guard = none) (s x : Operand)
  (ho : op.op = .call { callee := .builtin .append, args := #[s, x], argTypes := #[35, 35] })
  (B : Nat) (v : Value) (xs : List Int) (hs : act.eval s = v) (hv : OwnI w B v xs) (y : Int) (hx : act.eval x = .slice (some ⟨w.heap.size, 0, none⟩) 1 1) (hn : xs.length ≤ 1048576) (hB : B ≤ w.heap.size)
  (h : ∀ v' w', OwnI w' B v' (xs ++ [y]) → w.grownBy w' v.ownBlock → (∀ j, v'.ownBlock = some j → v.ownBlock = some j ∨ w.heap.size ≤ j) → wpList Tryz.prog ops Q rest (act.put op.dst v') w') :
  wpList Tryz.prog ops Q (op :: rest) act (w.alloc (.cells #[.int .i64 y] 3)) := by
 have hb : Below w.heap.size w (w.alloc (.cells #[.int .i64 y] 3)) := (Below.refl _ _).alloc (Nat.le_refl _) _
 refine wpList_append_ints _ hgd s x ho B 1 v (some ⟨w.heap.size, 0, none⟩) xs [y] hs hx (hv.below hb) (.inr ⟨w.heap.size, 0, rfl, by simp, fun i hi => ?_⟩) (by simp; omega) (by simp; omega) ?_
 ·have : i = 0 := by simp at hi; omega
  subst this
  exact new_cell _ _ _ 0 rfl
 ·intro v' w' o g a
  refine h v' w' o ⟨g.os, g.tape, g.output, Nat.le_trans hb.size g.size, fun k hk hne => (g.block k (Nat.lt_of_lt_of_le hk hb.size) hne).trans (hb.block k hk)⟩ fun j hj => ?_
  rcases a with a | a
  ·exact .inl (a.symm.trans hj)
  ·rw [hj] at a
   simp only [Option.some.injEq] at a
   right
   rw [a]
   simp
def Away (w w1 wr : World) (o : Value) : Prop := (∀ j, o.ownBlock = some j → j = w.heap.size ∨ w1.heap.size ≤ j) ∧ (∀ j, w.heap.size < j → j < w1.heap.size → wr.heap[j]? = w1.heap[j]?) ∧ w1.heap.size ≤ wr.heap.size
theorem Away.step {w w1 wr w4 : World} {o v' : Value} (h : Away w w1 wr o) (g : wr.grownBy w4 o.ownBlock) (a : ∀ j, v'.ownBlock = some j → o.ownBlock = some j ∨ wr.heap.size ≤ j) : Away w w1 w4 v' := by
 obtain ⟨h1, h2, h3⟩ := h
 refine ⟨fun j hj => ?_, fun j p1 p2 => ?_, Nat.le_trans h3 g.size⟩
 ·rcases a j hj with a | a
  ·exact h1 j a
  ·right; omega
 ·rw [g.block j (by omega) (fun e => ?_), h2 j p1 p2]
  rcases h1 j e.symm with e | e <;> omega
theorem Away.sl {w w1 wr : World} {o : Value} (h : Away w w1 wr o) {B cp : Nat} {a0 : Option Addr} {xs : List Int} (hB : w.heap.size < B) (hO : OwnI w1 B (.slice a0 xs.length cp) xs) : Sl wr a0 xs := by
 by_cases hx : 0 < xs.length
 ·obtain ⟨g, cap, e, hg, hl⟩ := hO.block hx
  simp only [Value.slice.injEq] at e
  obtain ⟨rfl, -, rfl⟩ := e
  refine .inr ⟨g, 0, rfl, Nat.lt_of_lt_of_le hl h.2.2, fun i hi => ?_⟩
  rw [Nat.zero_add, World.cell?_of_block (h.2.1 g (by omega) hl)]
  exact hO.cell hi
 ·exact .inl (List.eq_nil_of_length_eq_zero (by omega))
def valT (eh : Nat → E3) (kd pr : Int) (len j : Nat) : List Int := ((plN eh kd pr len).take j).map fun i => (eh i).v
theorem valT_le (eh : Nat → E3) (kd pr : Int) (len j : Nat) : (valT eh kd pr len j).length ≤ j := by simp [valT]; omega
theorem valT_all (eh : Nat → E3) (kd pr : Int) (len : Nat) : valT eh kd pr len (plI eh kd pr len).length = valL eh kd pr len := by
 unfold valT valL
 rw [plI_length, List.take_length]
theorem valT_next {eh : Nat → E3} {kd pr : Int} {len j q : Nat} (h : (plN eh kd pr len)[j]? = some q) : valT eh kd pr len (j + 1) = valT eh kd pr len j ++ [(eh q).v] := by
 unfold valT
 rw [List.take_add_one, h, List.map_append]
 rfl
end Go.Proofs.YtfdanemmefckpaaGreatDoor
