/- The walk of a queue's rest. -/
import Derived.Test.YtdigofhceahpdaaGreatDoorTc0
import Derived.Test.YtdigofhceahpdaaGreatDoorTc45
import Derived.Deep.RegionHeld3
import Derived.Deep.RegionWith
import Derived.Deep.RegionLaw
import Derived.Test.YtdigofhceahpdaaGreatDoorTc34
namespace Go.Proofs.YtdigofhceahpdaaGreatDoor
set_option maxRecDepth 100000
set_option maxHeartbeats 1000000
open Go.ChangeShapes Go.WideShapes Go.ChangeAt Go.RowKit Go.Deep
structure EvK (w : World) (N : Nat) (k q v : Int) : Prop where
 c0 : w.cell? ⟨N, 0, none⟩ = some (.int .i64 k)
 c1 : w.cell? ⟨N, 1, none⟩ = some (.int .i64 q)
 c2 : w.cell? ⟨N, 2, none⟩ = some (.int .i64 v)
 fr : ∀ j, w.frozen? ⟨N, j, none⟩ = false
theorem EvK.below {w w' : World} {N : Nat} {k q v : Int} (h : EvK w N k q v) (hb : Below w.heap.size w w') : EvK w' N k q v := by
 have hN := hb.block N (World.block_lt_of_cell? w _ h.c0)
 exact ⟨(World.cell?_of_block hN).trans h.c0, (World.cell?_of_block hN).trans h.c1, (World.cell?_of_block hN).trans h.c2, fun j => (World.frozen?_of_block hN).trans (h.fr j)⟩
theorem EvK.new (w : World) (k q v : Int) (t : TypeId) : EvK (w.alloc (.cells #[.int .i64 k, .int .i64 q, .int .i64 v] t)) w.heap.size k q v :=
 ⟨new_cell _ _ _ 0 (by simp), new_cell _ _ _ 1 (by simp), new_cell _ _ _ 2 (by simp), fun j => new_frozen _ _ _ _ (by simp)⟩
theorem EvK.put {w : World} {N : Nat} {k q v : Int} (h : EvK w N k q v) (k' q' v' : Int) : EvK (((w.setCell ⟨N, 0, none⟩ (.int .i64 k')).setCell ⟨N, 1, none⟩ (.int .i64 q')).setCell ⟨N, 2, none⟩ (.int .i64 v')) N k' q' v' := by
 obtain ⟨h0, h1, h2, hf⟩ := h
 exact ⟨by go_cell, by go_cell, by go_cell, fun j => by simpa using hf j⟩
def Sy.nk (y : Sy) (p : Nat) : Int := nxK (y.pH p) (y.pL p) (y.sS p).p (y.sS p).rs (y.sS p).os (y.sS p).c
def Sy.nq (y : Sy) (p : Nat) : Int := nxP (y.pH p) (y.pL p) (y.sS p).p (y.sS p).rs (y.sS p).os (y.sS p).c
def Sy.nv (y : Sy) (p : Nat) : Int := nxW (y.pH p) (y.pL p) (y.sS p).p (y.sS p).rs (y.sS p).os (y.sS p).c
def tkS (y : Sy) (p : Nat) (f : Int) : Int := if belB f y.pn = true then (if y.wL (f.toNat * y.pn + p) = 0 then 3 else if (y.wH (f.toNat * y.pn + p) 0).m = true then 5 else 0) else 2
def fuS (y : Sy) (p : Nat) (k q : Int) : Bool := decide (200 ≤ y.hL p) || (k == 2 && decide (12 ≤ y.wL (p * y.pn + q.toNat)))
def cmS (y : Sy) (p : Nat) (f : Int) : Int := if (y.sS p).c ≠ 0 then 6 else if fuS y p (y.nk p) (y.nq p) = true then 4 else if y.nk p = 3 then tkS y p (if y.nq p = 9 then f else y.nq p) else 0
theorem rp_okS {g : Nat → I5} {n : Nat} {eh : Nat → E3} (hp : progOkB g n 4 = true) : ∀ k S, rp g n eh k = some S → OkS n S
 | 0, S, h => by
  simp only [rp, Option.some.injEq] at h
  subst h
  exact newS_ok hp
 | k + 1, S, h => by
  simp only [rp] at h
  cases hr : rp g n eh k with
  | none => rw [hr] at h; cases h
  | some S0 =>
   rw [hr] at h
   simp only [Option.bind_some, rpStep] at h
   split at h
   ·rename_i hd
    simp only [Option.some.injEq] at h
    subst h
    exact doS_ok hd
   ·cases h
theorem Sy.Ok.four {y : Sy} (h : y.Ok) {p : Nat} (hp : p < y.pn) : progOkB (y.pH p) (y.pL p) 4 = true := (repO_some (h.rp p hp)).1
theorem Sy.Ok.le200 {y : Sy} (h : y.Ok) {p : Nat} (hp : p < y.pn) : y.hL p ≤ 200 := (repO_some (h.rp p hp)).2.1
theorem Sy.Ok.st {y : Sy} (h : y.Ok) {p : Nat} (hp : p < y.pn) : OkS (y.pL p) (y.sS p) := rp_okS (h.four hp) _ _ (repO_some (h.rp p hp)).2.2
theorem Sy.Ok.right {y : Sy} (h : y.Ok) {p : Nat} (hp : p < y.pn) (hc : (y.sS p).c = 0) : rightB (y.pH p) (y.pL p) (y.sS p).p (y.sS p).rs (y.sS p).os 0 = true := by
 have := right_of (h.four hp) (h.st hp) hc
 rwa [hc] at this
theorem Sy.Ok.peer {y : Sy} (h : y.Ok) {p : Nat} (hp : p < y.pn) (hk : y.nk p = 2) : 0 ≤ y.nq p ∧ y.nq p < y.pn := by
 unfold Sy.nk nxK at hk
 unfold Sy.nq nxP
 by_cases hr : rightB (y.pH p) (y.pL p) (y.sS p).p (y.sS p).rs (y.sS p).os (y.sS p).c = true
 ·rw [if_pos hr] at hk ⊢
  obtain ⟨-, h4, -⟩ := right_parts hr
  obtain ⟨-, ⟨k, ek, hkl⟩, -⟩ := st_parts h4
  have e : (y.sS p).p.toNat = k := by omega
  rw [e] at hk ⊢
  have h5 := right_ins (h.pr p hp) hkl
  simp only [insOkB, Bool.and_eq_true] at h5
  have h6 := h5.2
  have e6 : (y.pH p k).o = 6 := by
   unfold evK at hk
   by_cases e6 : (y.pH p k).o = 6
   ·exact e6
   ·rw [if_neg e6] at hk
    split at hk
    ·cases hk
    ·split at hk <;> cases hk
  rw [evP, if_pos e6]
  simp [opOkB, e6, inB] at h6
  omega
 ·rw [if_neg hr] at hk
  cases hk
theorem Sy.Ok.way {y : Sy} (h : y.Ok) {a b : Nat} (ha : a < y.pn) (hb : b < y.pn) : y.wL (a * y.pn + b) ≤ 12 := (h.wa a ha b hb).le
theorem way_lt {a b n : Nat} (ha : a < n) (hb : b < n) : a * n + b < n * n := by
 have := Nat.mul_le_mul_right n (show a + 1 ≤ n by omega)
 rw [Nat.add_mul, Nat.one_mul] at this
 omega
def Sy.setW (y : Sy) (i m : Nat) (H : Nat → I2) : Sy := { y with wL := fun j => if j = i then m else y.wL j, wH := fun j => if j = i then H else y.wH j }
def Sy.setH (y : Sy) (i m : Nat) (H : Nat → E3) : Sy := { y with hL := fun j => if j = i then m else y.hL j, hH := fun j => if j = i then H else y.hH j }
def Sy.setS (y : Sy) (i : Nat) (T : S4) : Sy := { y with sS := fun j => if j = i then T else y.sS j }
theorem OwnS.putW {w w1 : World} {B : Nat} {c : Nat → Nat} {y : Sy} {vp vs vh : Value} {g cap : Nat} {up us uw uh : Nat → Value} (o : OwnS w B c y vp vs (.slice (some ⟨g, 0, none⟩) y.wn cap) vh up us uw uh) {i : Nat} (hi : i < y.wn) {u' : Value} {m : Nat} {H' : Nat → I2} (hB : B ≤ w.heap.size) (hs : w.heap.size ≤ w1.heap.size) (g1 : ∀ k, k < w.heap.size → (uw i).ownBlock ≠ some k → w1.heap[k]? = w.heap[k]?)
  (hu : w1.ownsRow 0 122 2 u' m (fT H' m)) (hne : u' ≠ .slice none 0 0) (hb : ∀ k, u'.ownBlock = some k → (uw i).ownBlock = some k ∨ w.heap.size ≤ k) :
  OwnS (w1.setCell ⟨g, i, none⟩ u') B (rcol c w.heap.size 3) (y.setW i m H') vp vs (.slice (some ⟨g, 0, none⟩) y.wn cap) vh up us (fun j => if j = i then u' else uw j) uh := by
 have hP : ∀ q k, Cl B c q k → k < w.heap.size → Cl B (rcol c w.heap.size 3) q k := fun q k h hl => h.old hl
 have hg : Cl B c 3 g := o.t.rb g rfl
 have hgl : g < w.heap.size := (o.t.row.lt g rfl).2
 have hk : ∀ q, q ≠ 3 → ∀ k, Cl B (rcol c w.heap.size 3) q k → k < w.heap.size → (w1.setCell ⟨g, i, none⟩ u').heap[k]? = w.heap[k]? := fun q hq k h hl => by
  have e : c k = q := (rcol_old hl).symm.trans h.2
  refine (Below.heap_setCell _ _ _ _ fun ek => hq ?_).trans (g1 k hl fun ek => hq ?_)
  ·rw [← e, ek]; exact hg.2
  ·rw [← e]; exact (o.t.ob i hi k ek).2
 refine ⟨(o.p.mono (hP 1)).keep (hk 1 (by decide)), (o.s.mono (hP 2)).keep (hk 2 (by decide)), ?_, (o.h.mono (hP 4)).keep (hk 4 (by decide))⟩
 have h := LL.put o.t hi hs g1 hu hne hb (P' := Cl B (rcol c w.heap.size 3) 3) (hP 3) fun k h _ => ⟨Nat.le_trans hB h, rcol_new h⟩
 have e : (fun j => if j = i then fT H' m else fT (y.wH j) (y.wL j)) = fun j => fT ((y.setW i m H').wH j) ((y.setW i m H').wL j) := funext fun j => by
  by_cases q : j = i
  ·simp [Sy.setW, q]
  ·simp [Sy.setW, q]
 rw [e] at h
 exact h
theorem OwnS.putH {w w1 : World} {B : Nat} {c : Nat → Nat} {y : Sy} {vp vs vw : Value} {g cap : Nat} {up us uw uh : Nat → Value} (o : OwnS w B c y vp vs vw (.slice (some ⟨g, 0, none⟩) y.hn cap) up us uw uh) {i : Nat} (hi : i < y.hn) {u' : Value} {m : Nat} {H' : Nat → E3} (hB : B ≤ w.heap.size) (hs : w.heap.size ≤ w1.heap.size) (g1 : ∀ k, k < w.heap.size → (uh i).ownBlock ≠ some k → w1.heap[k]? = w.heap[k]?)
  (hu : w1.ownsRow 0 77 3 u' m (fE H' m)) (hne : u' ≠ .slice none 0 0) (hb : ∀ k, u'.ownBlock = some k → (uh i).ownBlock = some k ∨ w.heap.size ≤ k) :
  OwnS (w1.setCell ⟨g, i, none⟩ u') B (rcol c w.heap.size 4) (y.setH i m H') vp vs vw (.slice (some ⟨g, 0, none⟩) y.hn cap) up us uw (fun j => if j = i then u' else uh j) := by
 have hP : ∀ q k, Cl B c q k → k < w.heap.size → Cl B (rcol c w.heap.size 4) q k := fun q k h hl => h.old hl
 have hg : Cl B c 4 g := o.h.rb g rfl
 have hgl : g < w.heap.size := (o.h.row.lt g rfl).2
 have hk : ∀ q, q ≠ 4 → ∀ k, Cl B (rcol c w.heap.size 4) q k → k < w.heap.size → (w1.setCell ⟨g, i, none⟩ u').heap[k]? = w.heap[k]? := fun q hq k h hl => by
  have e : c k = q := (rcol_old hl).symm.trans h.2
  refine (Below.heap_setCell _ _ _ _ fun ek => hq ?_).trans (g1 k hl fun ek => hq ?_)
  ·rw [← e, ek]; exact hg.2
  ·rw [← e]; exact (o.h.ob i hi k ek).2
 refine ⟨(o.p.mono (hP 1)).keep (hk 1 (by decide)), (o.s.mono (hP 2)).keep (hk 2 (by decide)), (o.t.mono (hP 3)).keep (hk 3 (by decide)), ?_⟩
 have h := LL.put o.h hi hs g1 hu hne hb (P' := Cl B (rcol c w.heap.size 4) 4) (hP 4) fun k h _ => ⟨Nat.le_trans hB h, rcol_new h⟩
 have e : (fun j => if j = i then fE H' m else fE (y.hH j) (y.hL j)) = fun j => fE ((y.setH i m H').hH j) ((y.setH i m H').hL j) := funext fun j => by
  by_cases q : j = i
  ·simp [Sy.setH, q]
  ·simp [Sy.setH, q]
 rw [e] at h
 exact h
theorem OwnS.putS {w w1 : World} {B : Nat} {c : Nat → Nat} {y : Sy} {vp vw vh : Value} {g cap : Nat} {up us uw uh : Nat → Value} (o : OwnS w B c y vp (.slice (some ⟨g, 0, none⟩) y.sn cap) vw vh up us uw uh) {i : Nat} (hi : i < y.sn) {ra oa : Option Addr} {rn rc on oc : Nat} {p code : Int} {T : S4} (hB : B ≤ w.heap.size) (b1 : Below w.heap.size w w1) (hu : StOwn w1 w.heap.size (stV p ra rn rc oa on oc code) T.p T.rs T.os T.c) :
  OwnS ((((w1.setCell ⟨g, i * 4, none⟩ (.int .i64 p)).setCell ⟨g, i * 4 + 1, none⟩ (.slice ra rn rc)).setCell ⟨g, i * 4 + 2, none⟩ (.slice oa on oc)).setCell ⟨g, i * 4 + 3, none⟩ (.int .i64 code)) B (rcol c w.heap.size 2) (y.setS i T) vp (.slice (some ⟨g, 0, none⟩) y.sn cap) vw vh up (fun j => if j = i then stV p ra rn rc oa on oc code else us j) uw uh := by
 have hP : ∀ q k, Cl B c q k → k < w.heap.size → Cl B (rcol c w.heap.size 2) q k := fun q k h hl => h.old hl
 have hg : Cl B c 2 g := o.s.rb g rfl
 have hk : ∀ q, q ≠ 2 → ∀ k, Cl B (rcol c w.heap.size 2) q k → k < w.heap.size → ((((w1.setCell ⟨g, i * 4, none⟩ (.int .i64 p)).setCell ⟨g, i * 4 + 1, none⟩ (.slice ra rn rc)).setCell ⟨g, i * 4 + 2, none⟩ (.slice oa on oc)).setCell ⟨g, i * 4 + 3, none⟩ (.int .i64 code)).heap[k]? = w.heap[k]? := fun q hq k h hl => by
  have e : c k = q := (rcol_old hl).symm.trans h.2
  have hne : k ≠ g := fun ek => hq (by rw [← e, ek]; exact hg.2)
  exact ((Below.heap_setCell _ _ _ _ hne).trans ((Below.heap_setCell _ _ _ _ hne).trans ((Below.heap_setCell _ _ _ _ hne).trans (Below.heap_setCell _ _ _ _ hne)))).trans (b1.block k hl)
 exact ⟨(o.p.mono (hP 1)).keep (hk 1 (by decide)), LS.put o.s hi b1 hu (hP 2) fun k h _ => ⟨Nat.le_trans hB h, rcol_new h⟩, (o.t.mono (hP 3)).keep (hk 3 (by decide)), (o.h.mono (hP 4)).keep (hk 4 (by decide))⟩
def Sy.way (y : Sy) (p : Nat) (k q v : Int) : Sy :=
 { y with
  wL := if k = 2 then fun j => if j = p * y.pn + q.toNat then y.wL (p * y.pn + q.toNat) + 1 else y.wL j
   else if k = 3 then fun j => if j = q.toNat * y.pn + p then y.wL (q.toNat * y.pn + p) - 1 else y.wL j else y.wL
  wH := if k = 2 then fun j => if j = p * y.pn + q.toNat then (fun i => if i = y.wL (p * y.pn + q.toNat) then ⟨false, v⟩ else y.wH (p * y.pn + q.toNat) i) else y.wH j
   else if k = 3 then fun j => if j = q.toNat * y.pn + p then (fun i => y.wH (q.toNat * y.pn + p) (i + 1)) else y.wH j else y.wH }
theorem Sy.way_send (y : Sy) (p q : Nat) (v : Int) : y.way p 2 q v = y.setW (p * y.pn + q) (y.wL (p * y.pn + q) + 1) (fun i => if i = y.wL (p * y.pn + q) then ⟨false, v⟩ else y.wH (p * y.pn + q) i) := by
 simp [Sy.way, Sy.setW]
theorem Sy.way_take (y : Sy) (p q : Nat) (v : Int) : y.way p 3 q v = y.setW (q * y.pn + p) (y.wL (q * y.pn + p) - 1) (fun i => y.wH (q * y.pn + p) (i + 1)) := by
 simp [Sy.way, Sy.setW]
theorem Sy.way_no (y : Sy) (p : Nat) {k : Int} (h2 : k ≠ 2) (h3 : k ≠ 3) (q v : Int) : y.way p k q v = y := by
 simp [Sy.way, h2, h3]
theorem fT_push (H : Nat → I2) (x : I2) (n : Nat) : fT (fun i => if i = n then x else H i) (n + 1) = fT H n ++ cT x := by
 show flat (fun i => cT (if i = n then x else H i)) n ++ cT (if n = n then x else H n) = flat (fun i => cT (H i)) n ++ cT x
 rw [if_pos rfl]
 congr 1
 exact flat_congr fun i hi => by rw [if_neg (by omega)]
theorem fE_push (H : Nat → E3) (x : E3) (n : Nat) : fE (fun i => if i = n then x else H i) (n + 1) = fE H n ++ cE x := by
 show flat (fun i => cE (if i = n then x else H i)) n ++ cE (if n = n then x else H n) = flat (fun i => cE (H i)) n ++ cE x
 rw [if_pos rfl]
 congr 1
 exact flat_congr fun i hi => by rw [if_neg (by omega)]
def Sy.evt (y : Sy) (p : Nat) (k q v : Int) : Sy :=
 (y.setS p (doS (y.pH p) (y.pL p) (y.sS p).p (y.sS p).rs (y.sS p).os (y.sS p).c k q v)).setH p (y.hL p + 1) (fun i => if i = y.hL p then ⟨k, q, v⟩ else y.hH p i)
def Sy.eq (y : Sy) (p : Nat) (f : Int) : Int := if y.nk p = 3 then (if y.nq p = 9 then f else y.nq p) else y.nq p
def Sy.ev (y : Sy) (p : Nat) (f : Int) : Int := if y.nk p = 3 then (y.wH ((y.eq p f).toNat * y.pn + p) 0).v else y.nv p
def Sy.step (y : Sy) (p : Nat) (f : Int) : Sy := if cmS y p f = 0 then (y.way p (y.nk p) (y.eq p f) (y.ev p f)).evt p (y.nk p) (y.eq p f) (y.ev p f) else y
theorem Sy.way_evt (y : Sy) (p : Nat) (k q v : Int) : (y.way p k q v).evt p k q v = (y.evt p k q v).way p k q v := rfl
theorem Sy.step_no {y : Sy} {p : Nat} {f : Int} (h : cmS y p f ≠ 0) : y.step p f = y := if_neg h
def adOf : Value → Option Addr
 | .slice a _ _ => a
 | _ => none
def cpOf : Value → Nat
 | .slice _ _ c => c
 | _ => 0
def fdOf (v : Value) (i : Nat) : Value := (cellsL v).getD i (.slice none 0 0)
def Sy.sysIn (y : Sy) (vp vs vw vh : Value) (up us uw uh : Nat → Value) : SysIn :=
 ⟨adOf vp, y.pn, cpOf vp, fun i => adOf (up i), y.pL, fun i => cpOf (up i), y.pH,
  adOf vs, y.sn, cpOf vs, fun i => ⟨(y.sS i).p, adOf (fdOf (us i) 1), cpOf (fdOf (us i) 1), (y.sS i).rs, adOf (fdOf (us i) 2), cpOf (fdOf (us i) 2), (y.sS i).os, (y.sS i).c⟩,
  adOf vw, y.wn, cpOf vw, fun i => adOf (uw i), y.wL, fun i => cpOf (uw i), y.wH,
  adOf vh, y.hn, cpOf vh, fun i => adOf (uh i), y.hL, fun i => cpOf (uh i), y.hH⟩
theorem rowS_of {e : TypeId} {sz : Nat} {E : TypeId} {w : World} {P : Nat → Prop} {v : Value} {n : Nat} {u : Nat → Value} {L : Nat → Nat} {c : Nat → List Value} (o : LL e sz E w P v n u L c) : RowS w (adOf v) n fun i => .slice (adOf (u i)) (L i) (cpOf (u i)) := by
 rcases Nat.eq_zero_or_pos n with h | h
 ·exact .inl h
 ·obtain ⟨g, cap, rfl, -, hg, -, -⟩ := o.cell h
  refine .inr ⟨g, 0, rfl, hg, fun i hi => ?_⟩
  obtain ⟨g', cap', ew, -, -, hc, -⟩ := o.cell hi
  simp only [Value.slice.injEq, Option.some.injEq, Addr.mk.injEq, and_true, true_and] at ew
  obtain ⟨rfl, rfl⟩ := ew
  obtain ⟨a, c', eu⟩ := ownsRow_slice (o.own i hi)
  show w.cell? ⟨g, 0 + i, none⟩ = some (.slice (adOf (u i)) (L i) (cpOf (u i)))
  rw [Nat.zero_add, hc, eu]
  rfl
theorem sl_v {w : World} {B : Nat} {e : TypeId} {sz n : Nat} {v : Value} {xs : List Value} (o : w.ownsRow B e sz v n xs) : v = .slice (adOf v) n (cpOf v) := by
 obtain ⟨a, c, rfl⟩ := ownsRow_slice o
 rfl
theorem OwnS.v {w : World} {B : Nat} {c : Nat → Nat} {y : Sy} {vp vs vw vh : Value} {up us uw uh : Nat → Value} (o : OwnS w B c y vp vs vw vh up us uw uh) : (y.sysIn vp vs vw vh up us uw uh).v = .agg #[vp, vs, vw, vh] := by
 have e1 := sl_v o.p.row
 have e2 := sl_v o.s.row
 have e3 := sl_v o.t.row
 have e4 := sl_v o.h.row
 conv => rhs; rw [e1, e2, e3, e4]
 rfl
theorem OwnS.g {w : World} {B : Nat} {c : Nat → Nat} {y : Sy} {vp vs vw vh : Value} {up us uw uh : Nat → Value} (o : OwnS w B c y vp vs vw vh up us uw uh) : SysG w (y.sysIn vp vs vw vh up us uw uh) := by
 refine ⟨rowS_of o.p, fun i hi => ?_, ?_, rowS_of o.t, fun i hi => ?_, rowS_of o.h, fun i hi => ?_⟩
 ·obtain ⟨b, cap, eu, hb, hI, -⟩ := atI (o.p.own i hi) (o.p.nn i hi)
  exact ⟨b, by show adOf (up i) = _; rw [eu]; rfl, hb, hI⟩
 ·refine ⟨?_, fun i hi => ?_⟩
  ·rcases Nat.eq_zero_or_pos y.sn with h | h
   ·exact .inl h
   ·obtain ⟨g, cap, rfl, -, hg, -, -⟩ := o.s.cell h
    refine .inr ⟨g, 0, rfl, hg, fun i hi => ?_⟩
    obtain ⟨g', cap', ew, -, -, hc, -⟩ := o.s.cell hi
    simp only [Value.slice.injEq, Option.some.injEq, Addr.mk.injEq, and_true, true_and] at ew
    obtain ⟨rfl, rfl⟩ := ew
    obtain ⟨ra, rc, oa, oc, eu, h0, h1, h2, h3⟩ := hc
    show w.cell? ⟨g, 0 + i * 4, none⟩ = some (.int .i64 (y.sS i).p) ∧ w.cell? ⟨g, 0 + i * 4 + 1, none⟩ = some (.slice (adOf (fdOf (us i) 1)) (y.sS i).rs.length (cpOf (fdOf (us i) 1))) ∧ w.cell? ⟨g, 0 + i * 4 + 2, none⟩ = some (.slice (adOf (fdOf (us i) 2)) (y.sS i).os.length (cpOf (fdOf (us i) 2))) ∧ w.cell? ⟨g, 0 + i * 4 + 3, none⟩ = some (.int .i64 (y.sS i).c)
    rw [Nat.zero_add, eu]
    exact ⟨h0, h1, h2, h3⟩
  ·obtain ⟨g, cap, -, -, -, ⟨ra, rc, oa, oc, eu, -⟩, -⟩ := o.s.cell hi
   have h4 := o.s.own i hi
   rw [eu] at h4
   show Sl w (adOf (fdOf (us i) 1)) (y.sS i).rs ∧ Sl w (adOf (fdOf (us i) 2)) (y.sS i).os
   rw [eu]
   exact ⟨h4.parts.1.slOf, h4.parts.2.1.slOf⟩
 ·obtain ⟨b, cap, eu, hb, hI, -⟩ := atT (o.t.own i hi) (o.t.nn i hi)
  exact .inr ⟨b, 0, by show adOf (uw i) = _; rw [eu]; rfl, hb, hI⟩
 ·obtain ⟨b, cap, eu, hb, hI, -⟩ := atE (o.h.own i hi) (o.h.nn i hi)
  exact .inr ⟨b, 0, by show adOf (uh i) = _; rw [eu]; rfl, hb, hI⟩
theorem restItem_own (b n cap : Nat) (lim : Int) (H : Nat → I2) (w : World) (h0 : 0 < n) (hn : n ≤ 1000) (hc : n ≤ cap) (hcm : cap ≤ maxLen) (hb : b < w.heap.size) (hI : ItAt w b 0 n H) :
  Calls Tryz.prog 106 #[.agg #[.slice (some ⟨b, 0, none⟩) n cap, .int .i64 lim]] w fun e w' => ∃ a c, e = .returned (.slice a (n - 1) c) ∧ w'.ownsRow w.heap.size 122 2 (.slice a (n - 1) c) (n - 1) (fT (fun i => H (i + 1)) (n - 1)) ∧ Value.slice a (n - 1) c ≠ .slice none 0 0 ∧ Below w.heap.size w w' := by
 have hn' : (1 : Int) ≤ (n : Int) := by omega
 have hnc : (n : Int) ≤ (cap : Int) := by omega
 have hl1 : (n : Int) - 1 = ((n - 1 : Nat) : Int) := by omega
 have BA : Hid (Below w.heap.size w (w.alloc (.cells #[.slice (some ⟨b, 0, none⟩) n cap, .int .i64 lim] 138))) := below_allocL _ _
 have SR : Hid (Src w (some ⟨b, 2, none⟩) (fT (fun i => H (i + 1)) (n - 1))) := by
  refine srcOf (sz := 2) hb (by omega) (fun _ _ => rfl) fun i hi j hj => ?_
  obtain ⟨q0, q1⟩ := hI (i + 1) (by omega)
  match j, hj with
  | 0, _ => rw [show 2 + (i * 2 + 0) = 0 + (i + 1) * 2 by omega]; exact q0
  | 1, _ => rw [show 2 + (i * 2 + 1) = 0 + (i + 1) * 2 + 1 by omega]; exact q1
 have HN : Hid (0 < n ∧ n ≤ 1000 ∧ n ≤ cap) := ⟨h0, hn, hc⟩
 clear hI
 by_cases hcb : cap = 1
 ·subst hcb
  have hn1 : n = 1 := by omega
  subst hn1
  clear hl1 hnc hn' h0 hn hc
  go_enter Tryz.func106, Tryz.ntmps106
  go_wp2_with fail
  refine (cloneItem_own _ _ 0 _ (fun i => H (i + 1)) _ (by omega) (.inl rfl)).mono ?_
  rintro e w5 ⟨a5, c5, rfl, o5, n5, b5⟩
  have F5 : Hid (w5.ownsRow w.heap.size 122 2 (.slice a5 0 c5) 0 (fT (fun i => H (i + 1)) 0) ∧ Value.slice a5 0 c5 ≠ .slice none 0 0 ∧ Below w.heap.size w w5) := ⟨o5.mono (by simp), n5, BA.out.trans (b5.mono BA.out.size)⟩
  clear o5 n5 b5
  go_wp2
  go_ret
  exact ⟨_, _, rfl, F5.out⟩
 ·go_enter Tryz.func106, Tryz.ntmps106
  go_wp2_with fail
  refine (cloneItem_own b 2 (n - 1) _ (fun i => H (i + 1)) _ (by have := HN.out; omega) (SR.out.below BA.out)).mono ?_
  rintro e w5 ⟨a5, c5, rfl, o5, n5, b5⟩
  have F5 : Hid (w5.ownsRow w.heap.size 122 2 (.slice a5 (n - 1) c5) (n - 1) (fT (fun i => H (i + 1)) (n - 1)) ∧ Value.slice a5 (n - 1) c5 ≠ .slice none 0 0 ∧ Below w.heap.size w w5) := ⟨o5.mono (by simp), n5, BA.out.trans (b5.mono BA.out.size)⟩
  clear o5 n5 b5
  go_wp2
  go_ret
  exact ⟨_, _, rfl, F5.out⟩
end Go.Proofs.YtdigofhceahpdaaGreatDoor
