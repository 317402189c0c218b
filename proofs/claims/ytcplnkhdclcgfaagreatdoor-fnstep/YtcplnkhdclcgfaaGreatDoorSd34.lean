/- The walk of a queue's rest. -/
import Derived.Test.YtcplnkhdclcgfaaGreatDoorSd0
import Derived.Test.YtcplnkhdclcgfaaGreatDoorSd31
import Derived.Deep.RegionHeld3
import Derived.Deep.RegionWith
import Derived.Deep.RegionLaw
import Derived.Test.YtcplnkhdclcgfaaGreatDoorSd30
import Derived.Test.YtcplnkhdclcgfaaGreatDoorSd33
import Derived.Test.YtcplnkhdclcgfaaGreatDoorSd15
import Derived.Test.YtcplnkhdclcgfaaGreatDoorSd25
namespace Go.Proofs.YtcplnkhdclcgfaaGreatDoor
set_option maxRecDepth 100000
set_option maxHeartbeats 4000000
open Go.ChangeShapes Go.WideShapes Go.ChangeAt Go.RowKit Go.Deep
structure EvK (w : World) (N : Nat) (k q v : Int) : Prop where
 c0 : w.cell? ⟨N, 0, none⟩ = some (.int .i64 k)
 c1 : w.cell? ⟨N, 1, none⟩ = some (.int .i64 q)
 c2 : w.cell? ⟨N, 2, none⟩ = some (.int .i64 v)
 fr : ∀ j, w.frozen? ⟨N, j, none⟩ = false
theorem EvK.below {w w' : World} {N : Nat} {k q v : Int} (h : EvK w N k q v) (hb : Below w.heap.size w w') : EvK w' N k q v := by
 have hN := hb.block N (zJ w _ h.c0)
 exact ⟨(zH hN).trans h.c0, (zH hN).trans h.c1, (zH hN).trans h.c2, fun j => (zI hN).trans (h.fr j)⟩
theorem EvK.new (w : World) (k q v : Int) (t : TypeId) : EvK (w.alloc (.cells #[.int .i64 k, .int .i64 q, .int .i64 v] t)) w.heap.size k q v :=
 ⟨zW _ _ _ 0 (by simp), zW _ _ _ 1 (by simp), zW _ _ _ 2 (by simp), fun j => yB _ _ _ _ (by simp)⟩
theorem EvK.put {w : World} {N : Nat} {k q v : Int} (h : EvK w N k q v) (k' q' v' : Int) : EvK (((w.setCell ⟨N, 0, none⟩ (.int .i64 k')).setCell ⟨N, 1, none⟩ (.int .i64 q')).setCell ⟨N, 2, none⟩ (.int .i64 v')) N k' q' v' := by
 obtain ⟨h0, h1, h2, hf⟩ := h
 exact ⟨by go_cell, by go_cell, by go_cell, fun j => by simpa using hf j⟩
def Sy.nk (y : Sy) (p : Nat) : Int := nxK (y.pH p) (y.pL p) (y.sS p).p (y.sS p).rs (y.sS p).os (y.sS p).c
def Sy.nq (y : Sy) (p : Nat) : Int := nxP (y.pH p) (y.pL p) (y.sS p).p (y.sS p).rs (y.sS p).os (y.sS p).c
def Sy.nv (y : Sy) (p : Nat) : Int := nxW (y.pH p) (y.pL p) (y.sS p).p (y.sS p).rs (y.sS p).os (y.sS p).c
def tkS (y : Sy) (p : Nat) (f : Int) : Int := if belB f y.pn = true then (if y.wL (f.toNat * y.pn + p) = 0 then 3 else if (y.wH (f.toNat * y.pn + p) 0).m = true then 5 else 0) else 2
def fuS (y : Sy) (p : Nat) (k q : Int) : Bool := decide (200 <= y.hL p) || (k == 2 && decide (12 <= y.wL (p * y.pn + q.toNat)))
def cmS (y : Sy) (p : Nat) (f : Int) : Int := if (y.sS p).c ≠ 0 then 6 else if fuS y p (y.nk p) (y.nq p) = true then 4 else if y.nk p = 3 then tkS y p (if y.nq p = 9 then f else y.nq p) else 0
theorem rp_okS {g : Nat -> I5} {n : Nat} {eh : Nat -> E3} (hp : progOkB g n 4 = true) : ∀ k S, rp g n eh k = some S -> OkS n S
 | 0, S, h => by
  simp only [rp, Option.some.injEq] at h
  subst h
  exact newS_ok hp
 | k + 1, S, h => by
  simp only [rp] at h
  cases hr : rp g n eh k with
  | none => rw [hr] at h; cases h
  | some S0 =>
   rw [hr] at h
   simp only [Option.bind_some, rpStep] at h
   split at h
   ·rename_i hd
    simp only [Option.some.injEq] at h
    subst h
    exact doS_ok hd
   ·cases h
theorem Sy.Ok.four {y : Sy} (h : y.Ok) {p : Nat} (hp : p < y.pn) : progOkB (y.pH p) (y.pL p) 4 = true := (repO_some (h.rp p hp)).1
theorem Sy.Ok.le200 {y : Sy} (h : y.Ok) {p : Nat} (hp : p < y.pn) : y.hL p <= 200 := (repO_some (h.rp p hp)).2.1
theorem Sy.Ok.st {y : Sy} (h : y.Ok) {p : Nat} (hp : p < y.pn) : OkS (y.pL p) (y.sS p) := rp_okS (h.four hp) _ _ (repO_some (h.rp p hp)).2.2
theorem Sy.Ok.right {y : Sy} (h : y.Ok) {p : Nat} (hp : p < y.pn) (hc : (y.sS p).c = 0) : rightB (y.pH p) (y.pL p) (y.sS p).p (y.sS p).rs (y.sS p).os 0 = true := by
 have := right_of (h.four hp) (h.st hp) hc
 rwa [hc] at this
theorem Sy.Ok.peer {y : Sy} (h : y.Ok) {p : Nat} (hp : p < y.pn) (hk : y.nk p = 2) : 0 <= y.nq p /\ y.nq p < y.pn := by
 unfold Sy.nk nxK at hk
 unfold Sy.nq nxP
 by_cases hr : rightB (y.pH p) (y.pL p) (y.sS p).p (y.sS p).rs (y.sS p).os (y.sS p).c = true
 ·rw [if_pos hr] at hk ⊢
  obtain ⟨-, h4, -⟩ := right_parts hr
  obtain ⟨-, ⟨k, ek, hkl⟩, -⟩ := st_parts h4
  have e : (y.sS p).p.toNat = k := by omega
  rw [e] at hk ⊢
  have h5 := right_ins (h.pr p hp) hkl
  simp only [insOkB, Bool.and_eq_true] at h5
  have h6 := h5.2
  have e6 : (y.pH p k).o = 6 := by
   unfold evK at hk
   by_cases e6 : (y.pH p k).o = 6
   ·exact e6
   ·rw [if_neg e6] at hk
    split at hk
    ·cases hk
    ·split at hk <;> cases hk
  rw [evP, if_pos e6]
  simp [opOkB, e6, inB] at h6
  omega
 ·rw [if_neg hr] at hk
  cases hk
theorem Sy.Ok.way {y : Sy} (h : y.Ok) {a b : Nat} (ha : a < y.pn) (hb : b < y.pn) : y.wL (a * y.pn + b) <= 12 := (h.wa a ha b hb).le
theorem way_lt {a b n : Nat} (ha : a < n) (hb : b < n) : a * n + b < n * n := by
 have := Nat.mul_le_mul_right n (show a + 1 <= n by omega)
 rw [Nat.add_mul, Nat.one_mul] at this
 omega
variable {z : Bool}
def Sy.setW (y : Sy) (i m : Nat) (H : Nat -> I2) : Sy := { y with wL := fun j => if j = i then m else y.wL j, wH := fun j => if j = i then H else y.wH j }
def Sy.setH (y : Sy) (i m : Nat) (H : Nat -> E3) : Sy := { y with hL := fun j => if j = i then m else y.hL j, hH := fun j => if j = i then H else y.hH j }
def Sy.setS (y : Sy) (i : Nat) (T : S4) : Sy := { y with sS := fun j => if j = i then T else y.sS j }
theorem OwnS.putW {w w1 : World} {B : Nat} {c : Nat -> Nat} {y : Sy} {vp vs vh : Value} {g cap : Nat} {up us uw uh : Nat -> Value} (o : OwnS z w B c y vp vs (.slice (some ⟨g, 0, none⟩) y.wn cap) vh up us uw uh) {i : Nat} (hi : i < y.wn) {u' : Value} {m : Nat} {H' : Nat -> I2} (hB : B <= w.heap.size) (hs : w.heap.size <= w1.heap.size) (g1 : ∀ k, k < w.heap.size -> (uw i).ownBlock ≠ some k -> w1.heap[k]? = w.heap[k]?)
  (hu : w1.ownsRow 0 126 2 u' m (fT H' m)) (hne : u' ≠ .slice none 0 0) (hb : ∀ k, u'.ownBlock = some k -> (uw i).ownBlock = some k \/ w.heap.size <= k) :
  OwnS z (w1.setCell ⟨g, i, none⟩ u') B (rcol c w.heap.size 3) (y.setW i m H') vp vs (.slice (some ⟨g, 0, none⟩) y.wn cap) vh up us (fun j => if j = i then u' else uw j) uh := by
 have hP : ∀ q k, Cl B c q k -> k < w.heap.size -> Cl B (rcol c w.heap.size 3) q k := fun q k h hl => h.old hl
 have hg : Cl B c 3 g := o.t.rb g rfl
 have hgl : g < w.heap.size := (o.t.row.lt g rfl).2
 have hk : ∀ q, q ≠ 3 -> ∀ k, Cl B (rcol c w.heap.size 3) q k -> k < w.heap.size -> (w1.setCell ⟨g, i, none⟩ u').heap[k]? = w.heap[k]? := fun q hq k h hl => by
  have e : c k = q := (rcol_old hl).symm.trans h.2
  refine (zO _ _ _ _ fun ek => hq ?_).trans (g1 k hl fun ek => hq ?_)
  ·rw [<- e, ek]; exact hg.2
  ·rw [<- e]; exact (o.t.ob i hi k ek).2
 refine ⟨(o.p.mono (hP 1)).keep (hk 1 (by decide)), (o.s.mono (hP 2)).keep (hk 2 (by decide)), ?_, (o.h.mono (hP 4)).keep (hk 4 (by decide))⟩
 have h := LL.put o.t hi hs g1 hu (fun _ => hne) hb (P' := Cl B (rcol c w.heap.size 3) 3) (hP 3) fun k h _ => ⟨zP hB h, rcol_new h⟩
 have e : (fun j => if j = i then fT H' m else fT (y.wH j) (y.wL j)) = fun j => fT ((y.setW i m H').wH j) ((y.setW i m H').wL j) := funext fun j => by
  by_cases q : j = i
  ·simp [Sy.setW, q]
  ·simp [Sy.setW, q]
 rw [e] at h
 exact h
theorem OwnS.putH {w w1 : World} {B : Nat} {c : Nat -> Nat} {y : Sy} {vp vs vw : Value} {g cap : Nat} {up us uw uh : Nat -> Value} (o : OwnS z w B c y vp vs vw (.slice (some ⟨g, 0, none⟩) y.hn cap) up us uw uh) {i : Nat} (hi : i < y.hn) {u' : Value} {m : Nat} {H' : Nat -> E3} (hB : B <= w.heap.size) (hs : w.heap.size <= w1.heap.size) (g1 : ∀ k, k < w.heap.size -> (uh i).ownBlock ≠ some k -> w1.heap[k]? = w.heap[k]?)
  (hu : w1.ownsRow 0 71 3 u' m (fE H' m)) (hne : u' ≠ .slice none 0 0) (hb : ∀ k, u'.ownBlock = some k -> (uh i).ownBlock = some k \/ w.heap.size <= k) :
  OwnS z (w1.setCell ⟨g, i, none⟩ u') B (rcol c w.heap.size 4) (y.setH i m H') vp vs vw (.slice (some ⟨g, 0, none⟩) y.hn cap) up us uw (fun j => if j = i then u' else uh j) := by
 have hP : ∀ q k, Cl B c q k -> k < w.heap.size -> Cl B (rcol c w.heap.size 4) q k := fun q k h hl => h.old hl
 have hg : Cl B c 4 g := o.h.rb g rfl
 have hgl : g < w.heap.size := (o.h.row.lt g rfl).2
 have hk : ∀ q, q ≠ 4 -> ∀ k, Cl B (rcol c w.heap.size 4) q k -> k < w.heap.size -> (w1.setCell ⟨g, i, none⟩ u').heap[k]? = w.heap[k]? := fun q hq k h hl => by
  have e : c k = q := (rcol_old hl).symm.trans h.2
  refine (zO _ _ _ _ fun ek => hq ?_).trans (g1 k hl fun ek => hq ?_)
  ·rw [<- e, ek]; exact hg.2
  ·rw [<- e]; exact (o.h.ob i hi k ek).2
 refine ⟨(o.p.mono (hP 1)).keep (hk 1 (by decide)), (o.s.mono (hP 2)).keep (hk 2 (by decide)), (o.t.mono (hP 3)).keep (hk 3 (by decide)), ?_⟩
 have h := LL.put o.h hi hs g1 hu (fun _ => hne) hb (P' := Cl B (rcol c w.heap.size 4) 4) (hP 4) fun k h _ => ⟨zP hB h, rcol_new h⟩
 have e : (fun j => if j = i then fE H' m else fE (y.hH j) (y.hL j)) = fun j => fE ((y.setH i m H').hH j) ((y.setH i m H').hL j) := funext fun j => by
  by_cases q : j = i
  ·simp [Sy.setH, q]
  ·simp [Sy.setH, q]
 rw [e] at h
 exact h
theorem OwnS.putS {w w1 : World} {B : Nat} {c : Nat -> Nat} {y : Sy} {vp vw vh : Value} {g cap : Nat} {up us uw uh : Nat -> Value} (o : OwnS z w B c y vp (.slice (some ⟨g, 0, none⟩) y.sn cap) vw vh up us uw uh) {i : Nat} (hi : i < y.sn) {ra oa : Option Addr} {rn rc on oc : Nat} {p code : Int} {T : S4} (hB : B <= w.heap.size) (b1 : Below w.heap.size w w1) (hu : StOwn w1 w.heap.size (stV p ra rn rc oa on oc code) T.p T.rs T.os T.c) :
  OwnS z ((((w1.setCell ⟨g, i * 4, none⟩ (.int .i64 p)).setCell ⟨g, i * 4 + 1, none⟩ (.slice ra rn rc)).setCell ⟨g, i * 4 + 2, none⟩ (.slice oa on oc)).setCell ⟨g, i * 4 + 3, none⟩ (.int .i64 code)) B (rcol c w.heap.size 2) (y.setS i T) vp (.slice (some ⟨g, 0, none⟩) y.sn cap) vw vh up (fun j => if j = i then stV p ra rn rc oa on oc code else us j) uw uh := by
 have hP : ∀ q k, Cl B c q k -> k < w.heap.size -> Cl B (rcol c w.heap.size 2) q k := fun q k h hl => h.old hl
 have hg : Cl B c 2 g := o.s.rb g rfl
 have hk : ∀ q, q ≠ 2 -> ∀ k, Cl B (rcol c w.heap.size 2) q k -> k < w.heap.size -> ((((w1.setCell ⟨g, i * 4, none⟩ (.int .i64 p)).setCell ⟨g, i * 4 + 1, none⟩ (.slice ra rn rc)).setCell ⟨g, i * 4 + 2, none⟩ (.slice oa on oc)).setCell ⟨g, i * 4 + 3, none⟩ (.int .i64 code)).heap[k]? = w.heap[k]? := fun q hq k h hl => by
  have e : c k = q := (rcol_old hl).symm.trans h.2
  have hne : k ≠ g := fun ek => hq (by rw [<- e, ek]; exact hg.2)
  exact ((zO _ _ _ _ hne).trans ((zO _ _ _ _ hne).trans ((zO _ _ _ _ hne).trans (zO _ _ _ _ hne)))).trans (b1.block k hl)
 exact ⟨(o.p.mono (hP 1)).keep (hk 1 (by decide)), LS.put o.s hi b1 hu (hP 2) fun k h _ => ⟨zP hB h, rcol_new h⟩, (o.t.mono (hP 3)).keep (hk 3 (by decide)), (o.h.mono (hP 4)).keep (hk 4 (by decide))⟩
def Sy.way (y : Sy) (p : Nat) (k q v : Int) : Sy :=
 { y with
  wL := if k = 2 then fun j => if j = p * y.pn + q.toNat then y.wL (p * y.pn + q.toNat) + 1 else y.wL j
   else if k = 3 then fun j => if j = q.toNat * y.pn + p then y.wL (q.toNat * y.pn + p) - 1 else y.wL j else y.wL
  wH := if k = 2 then fun j => if j = p * y.pn + q.toNat then (fun i => if i = y.wL (p * y.pn + q.toNat) then ⟨false, v⟩ else y.wH (p * y.pn + q.toNat) i) else y.wH j
   else if k = 3 then fun j => if j = q.toNat * y.pn + p then (fun i => y.wH (q.toNat * y.pn + p) (i + 1)) else y.wH j else y.wH }
theorem Sy.way_send (y : Sy) (p q : Nat) (v : Int) : y.way p 2 q v = y.setW (p * y.pn + q) (y.wL (p * y.pn + q) + 1) (fun i => if i = y.wL (p * y.pn + q) then ⟨false, v⟩ else y.wH (p * y.pn + q) i) := by
 simp [Sy.way, Sy.setW]
theorem Sy.way_take (y : Sy) (p q : Nat) (v : Int) : y.way p 3 q v = y.setW (q * y.pn + p) (y.wL (q * y.pn + p) - 1) (fun i => y.wH (q * y.pn + p) (i + 1)) := by
 simp [Sy.way, Sy.setW]
theorem Sy.way_no (y : Sy) (p : Nat) {k : Int} (h2 : k ≠ 2) (h3 : k ≠ 3) (q v : Int) : y.way p k q v = y := by
 simp [Sy.way, h2, h3]
theorem fT_push (H : Nat -> I2) (x : I2) (n : Nat) : fT (fun i => if i = n then x else H i) (n + 1) = fT H n ++ cT x := by
 show flat (fun i => cT (if i = n then x else H i)) n ++ cT (if n = n then x else H n) = flat (fun i => cT (H i)) n ++ cT x
 rw [if_pos rfl]
 congr 1
 exact flat_congr fun i hi => by rw [if_neg (by omega)]
theorem fE_push (H : Nat -> E3) (x : E3) (n : Nat) : fE (fun i => if i = n then x else H i) (n + 1) = fE H n ++ cE x := by
 show flat (fun i => cE (if i = n then x else H i)) n ++ cE (if n = n then x else H n) = flat (fun i => cE (H i)) n ++ cE x
 rw [if_pos rfl]
 congr 1
 exact flat_congr fun i hi => by rw [if_neg (by omega)]
def Sy.evt (y : Sy) (p : Nat) (k q v : Int) : Sy :=
 (y.setS p (doS (y.pH p) (y.pL p) (y.sS p).p (y.sS p).rs (y.sS p).os (y.sS p).c k q v)).setH p (y.hL p + 1) (fun i => if i = y.hL p then ⟨k, q, v⟩ else y.hH p i)
def Sy.eq (y : Sy) (p : Nat) (f : Int) : Int := if y.nk p = 3 then (if y.nq p = 9 then f else y.nq p) else y.nq p
def Sy.ev (y : Sy) (p : Nat) (f : Int) : Int := if y.nk p = 3 then (y.wH ((y.eq p f).toNat * y.pn + p) 0).v else y.nv p
def Sy.step (y : Sy) (p : Nat) (f : Int) : Sy := if cmS y p f = 0 then (y.way p (y.nk p) (y.eq p f) (y.ev p f)).evt p (y.nk p) (y.eq p f) (y.ev p f) else y
theorem Sy.way_evt (y : Sy) (p : Nat) (k q v : Int) : (y.way p k q v).evt p k q v = (y.evt p k q v).way p k q v := rfl
theorem Sy.step_no {y : Sy} {p : Nat} {f : Int} (h : cmS y p f ≠ 0) : y.step p f = y := if_neg h
variable {z : Bool}
def adOf : Value -> Option Addr
 | .slice a _ _ => a
 | _ => none
def cpOf : Value -> Nat
 | .slice _ _ c => c
 | _ => 0
def fdOf (v : Value) (i : Nat) : Value := (cellsL v).getD i (.slice none 0 0)
def Sy.sysIn (y : Sy) (vp vs vw vh : Value) (up us uw uh : Nat -> Value) : SysIn :=
 ⟨adOf vp, y.pn, cpOf vp, fun i => adOf (up i), y.pL, fun i => cpOf (up i), y.pH,
  adOf vs, y.sn, cpOf vs, fun i => ⟨(y.sS i).p, adOf (fdOf (us i) 1), cpOf (fdOf (us i) 1), (y.sS i).rs, adOf (fdOf (us i) 2), cpOf (fdOf (us i) 2), (y.sS i).os, (y.sS i).c⟩,
  adOf vw, y.wn, cpOf vw, fun i => adOf (uw i), y.wL, fun i => cpOf (uw i), y.wH,
  adOf vh, y.hn, cpOf vh, fun i => adOf (uh i), y.hL, fun i => cpOf (uh i), y.hH⟩
theorem rowS_of {e : TypeId} {sz : Nat} {E : TypeId} {w : World} {P : Nat -> Prop} {v : Value} {n : Nat} {u : Nat -> Value} {L : Nat -> Nat} {c : Nat -> List Value} (o : LL z e sz E w P v n u L c) : RowS w (adOf v) n fun i => .slice (adOf (u i)) (L i) (cpOf (u i)) := by
 rcases Nat.eq_zero_or_pos n with h | h
 ·exact .inl h
 ·obtain ⟨g, cap, rfl, -, hg, -, -⟩ := o.cell h
  refine .inr ⟨g, 0, rfl, hg, fun i hi => ?_⟩
  obtain ⟨g', cap', ew, -, -, hc, -⟩ := o.cell hi
  simp only [Value.slice.injEq, Option.some.injEq, Addr.mk.injEq, and_true, true_and] at ew
  obtain ⟨rfl, rfl⟩ := ew
  obtain ⟨a, c', eu⟩ := zU (o.own i hi)
  show w.cell? ⟨g, 0 + i, none⟩ = some (.slice (adOf (u i)) (L i) (cpOf (u i)))
  rw [Nat.zero_add, hc, eu]
  rfl
theorem sl_v {w : World} {B : Nat} {e : TypeId} {sz n : Nat} {v : Value} {xs : List Value} (o : w.ownsRow B e sz v n xs) : v = .slice (adOf v) n (cpOf v) := by
 obtain ⟨a, c, rfl⟩ := zU o
 rfl
theorem OwnS.v {w : World} {B : Nat} {c : Nat -> Nat} {y : Sy} {vp vs vw vh : Value} {up us uw uh : Nat -> Value} (o : OwnS z w B c y vp vs vw vh up us uw uh) : (y.sysIn vp vs vw vh up us uw uh).v = .agg #[vp, vs, vw, vh] := by
 have e1 := sl_v o.p.row
 have e2 := sl_v o.s.row
 have e3 := sl_v o.t.row
 have e4 := sl_v o.h.row
 conv => rhs; rw [e1, e2, e3, e4]
 rfl
theorem nil_or {w : World} {B sz n : Nat} {e : TypeId} {u : Value} {xs : List Value} (o : w.ownsRow B e sz u n xs) : n = 0 \/ u ≠ .slice none 0 0 := by
 rcases o.2 with ⟨_, h⟩ | ⟨b, cap, cur, rfl, _⟩
 ·exact .inl h
 ·exact .inr (fun e => by cases e)
theorem itL_own {w : World} {B n : Nat} {u : Value} {g : Nat -> I2} (o : w.ownsRow B 126 2 u n (fT g n)) : ItL w (adOf u) n g := by
 rcases nil_or o with h | h
 ·exact .inl h
 ·obtain ⟨b, cap, eu, hb, hI, -⟩ := atT o h
  exact .inr ⟨b, 0, by rw [eu]; rfl, hb, hI⟩
theorem evL_own {w : World} {B n : Nat} {u : Value} {g : Nat -> E3} (o : w.ownsRow B 71 3 u n (fE g n)) : EvL w (adOf u) n g := by
 rcases nil_or o with h | h
 ·exact .inl h
 ·obtain ⟨b, cap, eu, hb, hI, -⟩ := atE o h
  exact .inr ⟨b, 0, by rw [eu]; rfl, hb, hI⟩
theorem OwnS.g {w : World} {B : Nat} {c : Nat -> Nat} {y : Sy} {vp vs vw vh : Value} {up us uw uh : Nat -> Value} (o : OwnS z w B c y vp vs vw vh up us uw uh) : SysG w (y.sysIn vp vs vw vh up us uw uh) := by
 refine ⟨rowS_of o.p, fun i hi => ?_, ?_, rowS_of o.t, fun i hi => ?_, rowS_of o.h, fun i hi => ?_⟩
 ·obtain ⟨b, cap, eu, hb, hI, -⟩ := atI (o.p.own i hi) (o.p.nn nzI i hi)
  exact ⟨b, by show adOf (up i) = _; rw [eu]; rfl, hb, hI⟩
 ·refine ⟨?_, fun i hi => ?_⟩
  ·rcases Nat.eq_zero_or_pos y.sn with h | h
   ·exact .inl h
   ·obtain ⟨g, cap, rfl, -, hg, -, -⟩ := o.s.cell h
    refine .inr ⟨g, 0, rfl, hg, fun i hi => ?_⟩
    obtain ⟨g', cap', ew, -, -, hc, -⟩ := o.s.cell hi
    simp only [Value.slice.injEq, Option.some.injEq, Addr.mk.injEq, and_true, true_and] at ew
    obtain ⟨rfl, rfl⟩ := ew
    obtain ⟨ra, rc, oa, oc, eu, h0, h1, h2, h3⟩ := hc
    show w.cell? ⟨g, 0 + i * 4, none⟩ = some (.int .i64 (y.sS i).p) /\ w.cell? ⟨g, 0 + i * 4 + 1, none⟩ = some (.slice (adOf (fdOf (us i) 1)) (y.sS i).rs.length (cpOf (fdOf (us i) 1))) /\ w.cell? ⟨g, 0 + i * 4 + 2, none⟩ = some (.slice (adOf (fdOf (us i) 2)) (y.sS i).os.length (cpOf (fdOf (us i) 2))) /\ w.cell? ⟨g, 0 + i * 4 + 3, none⟩ = some (.int .i64 (y.sS i).c)
    rw [Nat.zero_add, eu]
    exact ⟨h0, h1, h2, h3⟩
  ·obtain ⟨g, cap, -, -, -, ⟨ra, rc, oa, oc, eu, -⟩, -⟩ := o.s.cell hi
   have h4 := o.s.own i hi
   rw [eu] at h4
   show Sl w (adOf (fdOf (us i) 1)) (y.sS i).rs /\ Sl w (adOf (fdOf (us i) 2)) (y.sS i).os
   rw [eu]
   exact ⟨h4.parts.1.slOf, h4.parts.2.1.slOf⟩
 ·exact itL_own (o.t.own i hi)
 ·exact evL_own (o.h.own i hi)
variable {z : Bool}
structure SysIn.Nn (x : SysIn) (z : Bool) : Prop where
 w : ∀ i, i < x.wn -> (∃ b off, x.wA i = some ⟨b, off, none⟩) \/ (z = false /\ x.wA i = none /\ x.wL i = 0 /\ x.wC i = 0)
 h : ∀ i, i < x.hn -> (∃ b off, x.hA i = some ⟨b, off, none⟩) \/ (z = false /\ x.hA i = none /\ x.hL i = 0 /\ x.hC i = 0)
theorem run_make_states (n : Nat) (hn : n <= 1048576) : ∃ cs : Array Value, cs.size = n * 4 /\ ∀ w : World, (Instr.makeSlice 25 (.int .i64 0) (.int .i64 (n : Int))).run Tryz.prog w = .ok (.slice (some ⟨w.heap.size, 0, none⟩) 0 n) (w.alloc (.cells cs 39)) := by
 obtain ⟨i, z, hi, hz, hs, hb, hzs⟩ := kndS.inf
 refine ⟨madeCells z.cells (n * 4), size_madeCells _ _, fun w => ?_⟩
 have hby : i.bytes * n <= 281474976710656 := by
  rw [hb]
  omega
 have hby' : (i.bytes : Int) * (n : Int) <= 281474976710656 := by rw [<- Int.natCast_mul]; exact Int.ofNat_le.2 hby
 have h := run_make (P := Tryz.prog) w 25 39 i z kndS.und hi hz .i64 .i64 0 (n : Int) (by omega) (by omega) hby' (by omega)
 rw [hs, Int.toNat_natCast] at h
 exact h
theorem LS.made (w : World) (cs : Array Value) (n : Nat) (hn : n <= 1048576) (hc : cs.size = n * 4) (P : Nat -> Prop) (hP : P w.heap.size) (vs : Nat -> Value) (S : Nat -> S4) {N : Nat} (hN : N = w.heap.size) : LS (w.alloc (.cells cs 39)) P (.slice (some ⟨N, 0, none⟩) 0 n) 0 vs S := by
 subst hN
 exact ⟨World.ownsRow_made (base := 0) (e := 39) (size := 4) w cs n (Nat.zero_le _) (by unfold maxLen; omega) hc, fun i hi => (by omega), fun k hk => (by cases hk; exact hP), fun i hi => (by omega), fun i hi => (by omega), fun i j hi => (by omega)⟩
theorem OwnS.four {B m1 m2 m3 m4 : Nat} {w1 w2 w3 w4 wf : World} {y : Sy} {vp vs vw vh : Value} {up us uw uh : Nat -> Value} (h1 : m1 <= w1.heap.size) (h2 : w1.heap.size <= m2) (h3 : w2.heap.size <= m3) (h4 : w3.heap.size <= m4) (hB : B <= m1)
  (o1 : LS w1 (fun k => m1 <= k /\ k < w1.heap.size) vs y.sn us y.sS) (o2 : LI z w2 (fun k => m2 <= k /\ k < w2.heap.size) vp y.pn up y.pL y.pH) (o3 : LT z w3 (fun k => m3 <= k /\ k < w3.heap.size) vw y.wn uw y.wL y.wH) (o4 : LE z w4 (fun k => m4 <= k /\ k < w4.heap.size) vh y.hn uh y.hL y.hH)
  (b2 : Below w1.heap.size w1 w2) (b3 : Below w2.heap.size w2 w3) (b4 : Below w3.heap.size w3 w4) (hf : ∀ k, m1 <= k -> k < w4.heap.size -> wf.heap[k]? = w4.heap[k]?) :
  ∃ c, OwnS z wf B c y vp vs vw vh up us uw uh := by
 have z2 := b2.size
 have z3 := b3.size
 have z4 := b4.size
 refine ⟨fun k => if k < w1.heap.size then 2 else if k < w2.heap.size then 1 else if k < w3.heap.size then 3 else 4, ?_, ?_, ?_, ?_⟩
 ·refine (o2.keep (w' := wf) fun k hk hl => (hf k (by omega) (by omega)).trans ((b4.block k (by omega)).trans (b3.block k hl))).mono fun k hk _ => ⟨by omega, ?_⟩
  show (if k < w1.heap.size then 2 else if k < w2.heap.size then 1 else if k < w3.heap.size then 3 else 4) = 1
  rw [if_neg (by omega), if_pos (by omega)]
 ·refine (o1.keep (w' := wf) fun k hk hl => (hf k (by omega) (by omega)).trans ((b4.block k (by omega)).trans ((b3.block k (by omega)).trans (b2.block k hl)))).mono fun k hk _ => ⟨by omega, ?_⟩
  show (if k < w1.heap.size then 2 else if k < w2.heap.size then 1 else if k < w3.heap.size then 3 else 4) = 2
  rw [if_pos (by omega)]
 ·refine (o3.keep (w' := wf) fun k hk hl => (hf k (by omega) (by omega)).trans (b4.block k hl)).mono fun k hk _ => ⟨by omega, ?_⟩
  show (if k < w1.heap.size then 2 else if k < w2.heap.size then 1 else if k < w3.heap.size then 3 else 4) = 3
  rw [if_neg (by omega), if_neg (by omega), if_pos (by omega)]
 ·refine (o4.keep (w' := wf) fun k hk hl => hf k (by omega) hl).mono fun k hk _ => ⟨by omega, ?_⟩
  show (if k < w1.heap.size then 2 else if k < w2.heap.size then 1 else if k < w3.heap.size then 3 else 4) = 4
  rw [if_neg (by omega), if_neg (by omega), if_neg (by omega)]
theorem copySys_any (x : SysIn) (w : World) (hG : SysG w x) (hL : x.Len) (hN : x.Nn z) :
  Calls Tryz.prog 41 #[x.v] w fun e w' => ∃ v, e = .returned v /\ OwnSys z w' w.heap.size x.y v /\ Below w.heap.size w w' := by
 have HG : Hid (SysG w x) := hG
 have HL : Hid x.Len := hL
 have hsn' : (x.sn : Int) <= 1048576 := by have := hL.s.1; omega
 obtain ⟨cs, hcs, hmk⟩ := run_make_states x.sn hL.s.1
 have HCS : Hid (cs.size = x.sn * 4) := hcs
 have BW : Hid (Below w.heap.size w ((w.alloc (oQ4 x.pa x.pn x.pc x.sa x.sn x.sc x.wa x.wn x.wc x.ha x.hn x.hc)).alloc (zQ4))) := (zQ _ _).trans ((zQ _ _).mono (by simp))
 have NB : Hid (BoxC ((w.alloc (oQ4 x.pa x.pn x.pc x.sa x.sn x.sc x.wa x.wn x.wc x.ha x.hn x.hc)).alloc (zQ4)) w.heap.size (.slice x.pa x.pn x.pc) (.slice x.sa x.sn x.sc) (.slice x.wa x.wn x.wc) (.slice x.ha x.hn x.hc)) := (BoxC.new w _ _ _ _ _).below (zQ _ _)
 have RB : Hid (BoxC ((w.alloc (oQ4 x.pa x.pn x.pc x.sa x.sn x.sc x.wa x.wn x.wc x.ha x.hn x.hc)).alloc (zQ4)) (w.heap.size + 1) (.slice none 0 0) (.slice none 0 0) (.slice none 0 0) (.slice none 0 0) /\ ∀ j, ((w.alloc (oQ4 x.pa x.pn x.pc x.sa x.sn x.sc x.wa x.wn x.wc x.ha x.hn x.hc)).alloc (zQ4)).frozen? ⟨w.heap.size + 1, j, none⟩ = false) := ⟨⟨zW _ _ _ 0 (by simp), zW _ _ _ 1 (by simp), zW _ _ _ 2 (by simp), zW _ _ _ 3 (by simp)⟩, fun j => yB _ _ _ _ (by simp)⟩
 have hz : ((w.alloc (oQ4 x.pa x.pn x.pc x.sa x.sn x.sc x.wa x.wn x.wc x.ha x.hn x.hc)).alloc (zQ4)).heap.size = w.heap.size + 2 := by simp
 have hl0 : w.heap.size < ((w.alloc (oQ4 x.pa x.pn x.pc x.sa x.sn x.sc x.wa x.wn x.wc x.ha x.hn x.hc)).alloc (zQ4)).heap.size := by omega
 have hl1 : w.heap.size + 1 < ((w.alloc (oQ4 x.pa x.pn x.pc x.sa x.sn x.sc x.wa x.wn x.wc x.ha x.hn x.hc)).alloc (zQ4)).heap.size := by omega
 have Hp : Hid (∀ wx, Below ((w.alloc (oQ4 x.pa x.pn x.pc x.sa x.sn x.sc x.wa x.wn x.wc x.ha x.hn x.hc)).alloc (zQ4)).heap.size ((w.alloc (oQ4 x.pa x.pn x.pc x.sa x.sn x.sc x.wa x.wn x.wc x.ha x.hn x.hc)).alloc (zQ4)) wx → (RowS wx x.pa x.pn fun i => .slice (x.pA i) (x.pL i) (x.pC i)) ∧ ∀ i, i < x.pn → ∃ b off, x.pA i = some ⟨b, off, none⟩ ∧ Src wx (x.pA i) (fI (x.pH i) (x.pL i))) := fun wx hb => ⟨(HG.out.below (BW.out.trans (hb.mono BW.out.size))).p, fun i hi => by
  obtain ⟨b, e, hlt, hI⟩ := (HG.out.below (BW.out.trans (hb.mono BW.out.size))).pi i hi
  exact ⟨b, 0, e, by rw [e]; exact srcI hlt hI⟩⟩
 have Hw : Hid (∀ wx, Below ((w.alloc (oQ4 x.pa x.pn x.pc x.sa x.sn x.sc x.wa x.wn x.wc x.ha x.hn x.hc)).alloc (zQ4)).heap.size ((w.alloc (oQ4 x.pa x.pn x.pc x.sa x.sn x.sc x.wa x.wn x.wc x.ha x.hn x.hc)).alloc (zQ4)) wx → (RowS wx x.wa x.wn fun i => .slice (x.wA i) (x.wL i) (x.wC i)) ∧ ∀ i, i < x.wn → (∃ b off, x.wA i = some ⟨b, off, none⟩ ∧ Src wx (x.wA i) (fT (x.wH i) (x.wL i))) ∨ (z = false ∧ x.wA i = none ∧ x.wL i = 0 ∧ x.wC i = 0)) := fun wx hb => ⟨(HG.out.below (BW.out.trans (hb.mono BW.out.size))).w, fun i hi => by
  rcases hN.w i hi with ⟨b, off, e⟩ | h
  ·exact .inl ⟨b, off, e, srcT ((HG.out.below (BW.out.trans (hb.mono BW.out.size))).wi i hi)⟩
  ·exact .inr h⟩
 have Hh : Hid (∀ wx, Below ((w.alloc (oQ4 x.pa x.pn x.pc x.sa x.sn x.sc x.wa x.wn x.wc x.ha x.hn x.hc)).alloc (zQ4)).heap.size ((w.alloc (oQ4 x.pa x.pn x.pc x.sa x.sn x.sc x.wa x.wn x.wc x.ha x.hn x.hc)).alloc (zQ4)) wx → (RowS wx x.ha x.hn fun i => .slice (x.hA i) (x.hL i) (x.hC i)) ∧ ∀ i, i < x.hn → (∃ b off, x.hA i = some ⟨b, off, none⟩ ∧ Src wx (x.hA i) (fE (x.hH i) (x.hL i))) ∨ (z = false ∧ x.hA i = none ∧ x.hL i = 0 ∧ x.hC i = 0)) := fun wx hb => ⟨(HG.out.below (BW.out.trans (hb.mono BW.out.size))).h, fun i hi => by
  rcases hN.h i hi with ⟨b, off, e⟩ | h
  ·exact .inl ⟨b, off, e, srcE ((HG.out.below (BW.out.trans (hb.mono BW.out.size))).hi i hi)⟩
  ·exact .inr h⟩
 have HZ2 : Hid (((w.alloc (oQ4 x.pa x.pn x.pc x.sa x.sn x.sc x.wa x.wn x.wc x.ha x.hn x.hc)).alloc (zQ4)).heap.size = w.heap.size + 1 + 1) := hz
 clear hG hL hcs hz
 go_enter Tryz.func41, Tryz.ntmps41
 go_wp2_with fail
 clear hmk
 generalize hW2 : (w.alloc (oQ4 x.pa x.pn x.pc x.sa x.sn x.sc x.wa x.wn x.wc x.ha x.hn x.hc)).alloc (zQ4) = W2 at *
 clear hW2
 go_loopw [3, 13] (fun v i wr => ∃ k : Nat, k <= x.sn /\ i = .int .i64 k /\ Hid ((∃ us, LS wr (fun b => W2.heap.size <= b /\ b < wr.heap.size) v k us x.sS) /\ Below W2.heap.size W2 wr)) (fun _ i _ => x.sn - (intOf i).toNat)
 case atStart => exact ⟨0, Nat.zero_le _, rfl, ⟨fun _ => .slice none 0 0, LS.made W2 cs x.sn HL.out.s.1 HCS.out (fun b => W2.heap.size <= b /\ b < (W2.alloc (.cells cs 39)).heap.size) ⟨Nat.le_refl _, by simp⟩ _ _ HZ2.out.symm⟩, zQ _ _⟩
 case round =>
  obtain ⟨k, hk, rfl, HZ⟩ := hrel
  by_cases hlt : k < x.sn
  ·have hlt' : (k : Int) < (x.sn : Int) := by omega
   obtain ⟨⟨us, oz⟩, bz⟩ := HZ.out
   obtain ⟨bs, os, es, s0, s1, s2, s3⟩ := (HG.out.below (BW.out.trans (bz.mono BW.out.size))).s.at hlt
   have hls := (HG.out.below (BW.out.trans (bz.mono BW.out.size))).s.lst k hlt
   have hbs : bs < wr.heap.size := zJ wr _ s0
   have HLk := HL.out.s.2 k hlt
   rw [es]
   have OZ : Hid (LS wr (fun b => W2.heap.size <= b /\ b < wr.heap.size) u3 k us x.sS) := oz
   have BZ : Hid (Below W2.heap.size W2 wr) := bz
   have LSt : Hid (Sl wr (x.sQ k).ra (x.sQ k).rs /\ Sl wr (x.sQ k).oa (x.sQ k).os) := hls
   clear oz bz hls HZ es
   go_wp2_with fail
   have ba := zQ wr (oQ2 (x.sQ k).p (x.sQ k).ra (x.sQ k).rs.length (x.sQ k).rc (x.sQ k).oa (x.sQ k).os.length (x.sQ k).oc (x.sQ k).c)
   refine (copyState_any _ _ _ _ _ _ (x.sQ k).rs (x.sQ k).os _ HLk.1 HLk.2 (LSt.out.1.below ba) (LSt.out.2.below ba)).mono ?_
   rintro e w1 ⟨v1, rfl, o1, d1⟩
   obtain ⟨ra1, rc1, oa1, oc1, rfl, -, -⟩ := o1.read
   have q1 : Below wr.heap.size wr w1 := ba.trans (d1.mono ba.size)
   have F1 : Hid (StOwn w1 wr.heap.size (stV (x.sQ k).p ra1 (x.sQ k).rs.length rc1 oa1 (x.sQ k).os.length oc1 (x.sQ k).c) (x.sQ k).p (x.sQ k).rs (x.sQ k).os (x.sQ k).c /\ Below wr.heap.size wr w1) := ⟨o1.mono (by simp), q1⟩
   clear o1 d1 q1 ba s0 s1 s2 s3
   go_wp2_with (at_builtin; refine step_append_val kndS w1 rfl rfl _ _ rfl 0 u3 k _ rfl (OZ.out.below F1.out.2).row #[.int .i64 (x.sQ k).p, .slice ra1 (x.sQ k).rs.length rc1, .slice oa1 (x.sQ k).os.length oc1, .int .i64 (x.sQ k).c] rfl rfl (by intro u hu; simp at hu; rcases hu with rfl | rfl | rfl | rfl <;> rfl) (by omega) (Nat.zero_le _) ?_; intro v5 w5 o5 g5 q5 n5; have F5 : Hid ((∃ us, LS w5 (fun b => W2.heap.size <= b /\ b < w5.heap.size) v5 (k + 1) us x.sS) /\ Below W2.heap.size W2 w5) := ⟨⟨_, OZ.out.push F1.out.2 F1.out.1 o5 g5 q5 (fun j hj _ => ⟨hj.1, zL hj.2 (zP F1.out.2.size g5.size)⟩) (fun j hj hj' => ⟨zP BZ.out.size hj, hj'⟩)⟩, Below.grown (BZ.out.trans (F1.out.2.mono BZ.out.size)) g5 (zP BZ.out.size F1.out.2.size) (fun j hj => (OZ.out.rb j hj).1)⟩; clear o5 g5 q5 n5)
   go_roundw
   case rel => exact ⟨k + 1, by omega, by go_num, F5.out.1, F5.out.2⟩
   case measure => simp [intOf]; omega
  ·have hkn : k = x.sn := by omega
   subst hkn
   obtain ⟨⟨us, oz⟩, q0⟩ := HZ.out
   obtain ⟨sa, sc, rfl⟩ := zU oz.row
   have b0 := NB.out.below q0
   clear HZ
   go_wp2_with fail
   refine wp_region_G (fun w' => w'.cell? ⟨w.heap.size, 0, none⟩ = some (.slice x.pa x.pn x.pc) /\ w'.cell? ⟨w.heap.size, 2, none⟩ = some (.slice x.wa x.wn x.wc) /\ w'.cell? ⟨w.heap.size, 3, none⟩ = some (.slice x.ha x.hn x.hc)) (fun i => i == 11) (by kernel_rfl) ?_
   have hHeld : (fun w' => w'.cell? ⟨w.heap.size, 0, none⟩ = some (.slice x.pa x.pn x.pc) /\ w'.cell? ⟨w.heap.size, 2, none⟩ = some (.slice x.wa x.wn x.wc) /\ w'.cell? ⟨w.heap.size, 3, none⟩ = some (.slice x.ha x.hn x.hc)) wr.drew := ⟨b0.1, b0.2.2.1, b0.2.2.2⟩
   have q0 : Below W2.heap.size W2 wr.drew := q0.drew
   refine wpGT_of [0, 1, 3, 4, 5, 7, 8] ?_
   iterate 7 (refine wpGT_take rfl hHeld ?_; apply Exists.intro; refine ⟨fun wq hSw => ?_, ?_⟩; (· ((try dsimp only at hSw); go_simp; try with_reducible rfl)); (try simp only [Act.put, zD, zE, zF]))
   refine wpGT_nil ?_
   refine wpG_one 2 rfl (by kernel_rfl) (fun K hK => ?_)
   refine stepR_call rfl 68 _ _ rfl #[.slice x.pa x.pn x.pc] (by simp [Act.eval]) (yA Tryz.func68 (by kernel_rfl) rfl) (copyListsIns_own (z := z) x.pa x.pn x.pc x.pA x.pL x.pC x.pH wr.drew HL.out.p.1 HL.out.p.2 (Hp.out _ q0).1 (Hp.out _ q0).2) ?_
   rintro e w1 ⟨v1, u1, rfl, o1, d1⟩
   obtain ⟨a1, c1, rfl⟩ := zU o1.row
   refine ⟨_, rfl, ?_⟩
   have q1 : Below W2.heap.size W2 w1 := q0.trans (d1.mono q0.size)
   have b1 := NB.out.below q1
   refine hK.out _ _ (fun _ => ⟨b1.1, b1.2.2.1, b1.2.2.2⟩) ?_
   clear hHeld
   have hHeld : (fun w' => w'.cell? ⟨w.heap.size, 0, none⟩ = some (.slice x.pa x.pn x.pc) /\ w'.cell? ⟨w.heap.size, 2, none⟩ = some (.slice x.wa x.wn x.wc) /\ w'.cell? ⟨w.heap.size, 3, none⟩ = some (.slice x.ha x.hn x.hc)) w1 := ⟨b1.1, b1.2.2.1, b1.2.2.2⟩
   clear hK K
   (try simp only [Act.put, zD, zE, zF])
   refine wpG_one 6 rfl (by kernel_rfl) (fun K hK => ?_)
   refine stepR_call rfl 99 _ _ rfl #[.slice x.wa x.wn x.wc] (by simp [Act.eval]) (yA Tryz.func99 (by kernel_rfl) rfl) (copyListsItem_own (z := z) x.wa x.wn x.wc x.wA x.wL x.wC x.wH w1 HL.out.w.1 HL.out.w.2 (Hw.out _ q1).1 (Hw.out _ q1).2) ?_
   rintro e w2 ⟨v2, u2, rfl, o2, d2⟩
   obtain ⟨a2, c2, rfl⟩ := zU o2.row
   refine ⟨_, rfl, ?_⟩
   have q2 : Below W2.heap.size W2 w2 := q1.trans (d2.mono q1.size)
   have b2 := NB.out.below q2
   refine hK.out _ _ (fun _ => ⟨b2.1, b2.2.2.1, b2.2.2.2⟩) ?_
   clear hHeld
   have hHeld : (fun w' => w'.cell? ⟨w.heap.size, 0, none⟩ = some (.slice x.pa x.pn x.pc) /\ w'.cell? ⟨w.heap.size, 2, none⟩ = some (.slice x.wa x.wn x.wc) /\ w'.cell? ⟨w.heap.size, 3, none⟩ = some (.slice x.ha x.hn x.hc)) w2 := ⟨b2.1, b2.2.2.1, b2.2.2.2⟩
   clear hK K
   (try simp only [Act.put, zD, zE, zF])
   refine wpG_one 9 rfl (by kernel_rfl) (fun K hK => ?_)
   refine stepR_call rfl 100 _ _ rfl #[.slice x.ha x.hn x.hc] (by simp [Act.eval]) (yA Tryz.func100 (by kernel_rfl) rfl) (copyListsEvent_own (z := z) x.ha x.hn x.hc x.hA x.hL x.hC x.hH w2 HL.out.h.1 HL.out.h.2 (Hh.out _ q2).1 (Hh.out _ q2).2) ?_
   rintro e w3 ⟨v3, u3, rfl, o3, d3⟩
   obtain ⟨a3, c3, rfl⟩ := zU o3.row
   refine ⟨_, rfl, ?_⟩
   have q3 : Below W2.heap.size W2 w3 := q2.trans (d3.mono q2.size)
   have b3 := NB.out.below q3
   refine hK.out _ _ (fun _ => ⟨b3.1, b3.2.2.1, b3.2.2.2⟩) ?_
   clear hHeld
   have hHeld : (fun w' => w'.cell? ⟨w.heap.size, 0, none⟩ = some (.slice x.pa x.pn x.pc) /\ w'.cell? ⟨w.heap.size, 2, none⟩ = some (.slice x.wa x.wn x.wc) /\ w'.cell? ⟨w.heap.size, 3, none⟩ = some (.slice x.ha x.hn x.hc)) w3 := ⟨b3.1, b3.2.2.1, b3.2.2.2⟩
   clear hK K
   (try simp only [Act.put, zD, zE, zF])
   refine wpG_take 10 rfl hHeld ?_
   apply Exists.intro
   refine ⟨fun wq hSw => ?_, ?_⟩
   ·(try dsimp only at hSw)
    go_simp
    try with_reducible rfl
   (try simp only [Act.put, zD, zE, zF])
   obtain ⟨r0, r1, r2, r3⟩ := RB.out.1.below q3
   have rf : ∀ j, w3.frozen? ⟨w.heap.size + 1, j, none⟩ = false := fun j => ((bcell q3).2 _ j hl1).trans (RB.out.2 j)
   refine wpG_one 11 rfl (by kernel_rfl) (fun K hK => ?_)
   go_simp
   refine hK.out _ _ (fun h => ?_) ?_
   ·exact absurd h (by decide)
   clear hK K
   (try simp only [Act.put])
   refine wpG_done (by kernel_rfl) ?_ _
   go_wp2
   refine bodyPost_ret (v := sysV a1 x.pn c1 sa x.sn sc a2 x.wn c2 a3 x.hn c3) (by simp [results, Tryz.results41, go_sem, r0, r1, r2, r3]) rfl ⟨_, rfl, ?_, ?_⟩
   ·obtain ⟨cc, hcc⟩ := OwnS.four (B := w.heap.size) (m1 := W2.heap.size) (wf := (((w3.setCell ⟨w.heap.size + 1, 0, none⟩ (.slice a1 x.pn c1)).setCell ⟨w.heap.size + 1, 1, none⟩ (.slice sa x.sn sc)).setCell ⟨w.heap.size + 1, 2, none⟩ (.slice a2 x.wn c2)).setCell ⟨w.heap.size + 1, 3, none⟩ (.slice a3 x.hn c3)) (y := x.y) (by have : W2.heap.size <= wr.heap.size := q0.size; omega) (by simp) (Nat.le_refl _) (Nat.le_refl _) (by omega) oz o1 o2 o3 ((Below.refl wr.heap.size wr).drew.trans d1) d2 d3 (fun k h1 h2 => by repeat (rw [zO _ _ _ _ (show k ≠ w.heap.size + 1 by omega)]))
    exact ⟨cc, _, _, _, _, _, _, _, _, rfl, hcc⟩
   ·have h9 := BW.out.trans (q3.mono BW.out.size)
    exact (((h9.setCell (show w.heap.size <= w.heap.size + 1 by omega) _).setCell (show w.heap.size <= w.heap.size + 1 by omega) _).setCell (show w.heap.size <= w.heap.size + 1 by omega) _).setCell (show w.heap.size <= w.heap.size + 1 by omega) _
theorem LL.ext {z : Bool} {e : TypeId} {sz : Nat} {E : TypeId} {w : World} {P : Nat -> Prop} {v : Value} {n : Nat} {u : Nat -> Value} {L L' : Nat -> Nat} {c c' : Nat -> List Value} (o : LL z e sz E w P v n u L c) (h : ∀ i, i < n -> L' i = L i /\ c' i = c i) : LL z e sz E w P v n u L' c' :=
 ⟨o.row, fun i hi => (by rw [(h i hi).1, (h i hi).2]; exact o.own i hi), o.rb, o.ob, o.ra, o.oa, o.nn⟩
theorem Lst.known {w : World} {B n : Nat} {v : Value} (h : Lst w B v n) : ∃ G, w.ownsRow B 99 5 v n (fI G n) := by
 obtain ⟨xs, ho, hx⟩ := h
 have hall := List.all_eq_true.1 hx
 have key : ∀ j, j < n * 5 -> ∃ x : Int, xs[j]? = some (.int .i64 x) := by
  intro j hj
  have hl : j < xs.length := by rw [ho.1]; exact hj
  obtain ⟨x, hxx⟩ := isI_int (hall xs[j] (List.getElem_mem hl))
  exact ⟨x, by rw [List.getElem?_eq_getElem hl, hxx]⟩
 have inh : Inhabited Int := ⟨0⟩
 obtain ⟨f, hf⟩ := Go.Deep.choose_lt (α := Int) key
 refine ⟨fun i => ⟨f (i * 5), f (i * 5 + 1), f (i * 5 + 2), f (i * 5 + 3), f (i * 5 + 4)⟩, ?_⟩
 have e : xs = fI (fun i => ⟨f (i * 5), f (i * 5 + 1), f (i * 5 + 2), f (i * 5 + 3), f (i * 5 + 4)⟩) n := by
  refine List.ext_getElem? fun k => ?_
  have hl2 := fI_len (fun i => ⟨f (i * 5), f (i * 5 + 1), f (i * 5 + 2), f (i * 5 + 3), f (i * 5 + 4)⟩) n
  by_cases hk : k < n * 5
  ·have hfl := flat_at (f := fun i => cI ⟨f (i * 5), f (i * 5 + 1), f (i * 5 + 2), f (i * 5 + 3), f (i * 5 + 4)⟩) (sz := 5) (n := n) (fun _ _ => rfl) (i := k / 5) (j := k % 5) (by omega) (by omega)
   have hkk : k / 5 * 5 + k % 5 = k := by omega
   rw [hkk] at hfl
   rw [hf k hk]
   refine Eq.trans ?_ hfl.symm
   have hm : k % 5 = 0 \/ k % 5 = 1 \/ k % 5 = 2 \/ k % 5 = 3 \/ k % 5 = 4 := by omega
   rcases hm with m | m | m | m | m
   ·rw [m]; rw [m] at hkk; simp only [cI]; rw [show k / 5 * 5 = k by omega]; rfl
   ·rw [m]; rw [m] at hkk; simp only [cI]; rw [show k / 5 * 5 + 1 = k by omega]; rfl
   ·rw [m]; rw [m] at hkk; simp only [cI]; rw [show k / 5 * 5 + 2 = k by omega]; rfl
   ·rw [m]; rw [m] at hkk; simp only [cI]; rw [show k / 5 * 5 + 3 = k by omega]; rfl
   ·rw [m]; rw [m] at hkk; simp only [cI]; rw [show k / 5 * 5 + 4 = k by omega]; rfl
  ·rw [List.getElem?_eq_none (by rw [ho.1]; omega), List.getElem?_eq_none (by rw [hl2]; omega)]
 rw [<- e]
 exact ho
variable {z : Bool}
theorem restItem_own (b n cap : Nat) (lim : Int) (H : Nat -> I2) (w : World) (h0 : 0 < n) (hn : n <= 1000) (hc : n <= cap) (hcm : cap <= maxLen) (hb : b < w.heap.size) (hI : ItAt w b 0 n H) :
  Calls Tryz.prog 111 #[.agg #[.slice (some ⟨b, 0, none⟩) n cap, .int .i64 lim]] w fun e w' => ∃ a c, e = .returned (.slice a (n - 1) c) /\ w'.ownsRow w.heap.size 126 2 (.slice a (n - 1) c) (n - 1) (fT (fun i => H (i + 1)) (n - 1)) /\ Value.slice a (n - 1) c ≠ .slice none 0 0 /\ Below w.heap.size w w' := by
 have hn' : (1 : Int) <= (n : Int) := by omega
 have hnc : (n : Int) <= (cap : Int) := by omega
 have hl1 : (n : Int) - 1 = ((n - 1 : Nat) : Int) := by omega
 have BA : Hid (Below w.heap.size w (w.alloc (.cells #[.slice (some ⟨b, 0, none⟩) n cap, .int .i64 lim] 141))) := zQ _ _
 have SR : Hid (Src w (some ⟨b, 2, none⟩) (fT (fun i => H (i + 1)) (n - 1))) := by
  refine srcOf (sz := 2) hb (by omega) (fun _ _ => rfl) fun i hi j hj => ?_
  obtain ⟨q0, q1⟩ := hI (i + 1) (by omega)
  match j, hj with
  | 0, _ => rw [show 2 + (i * 2 + 0) = 0 + (i + 1) * 2 by omega]; exact q0
  | 1, _ => rw [show 2 + (i * 2 + 1) = 0 + (i + 1) * 2 + 1 by omega]; exact q1
 have HN : Hid (0 < n /\ n <= 1000 /\ n <= cap) := ⟨h0, hn, hc⟩
 clear hI
 by_cases hcb : cap = 1
 ·subst hcb
  have hn1 : n = 1 := by omega
  subst hn1
  clear hl1 hnc hn' h0 hn hc
  go_enter Tryz.func111, Tryz.ntmps111
  go_wp2_with fail
  refine (cloneItem_own _ _ 0 _ (fun i => H (i + 1)) _ (by omega) (.inl rfl)).mono ?_
  rintro e w5 ⟨a5, c5, rfl, o5, n5, b5⟩
  have F5 : Hid (w5.ownsRow w.heap.size 126 2 (.slice a5 0 c5) 0 (fT (fun i => H (i + 1)) 0) /\ Value.slice a5 0 c5 ≠ .slice none 0 0 /\ Below w.heap.size w w5) := ⟨o5.mono (by simp), n5, BA.out.trans (b5.mono BA.out.size)⟩
  clear o5 n5 b5
  go_wp2
  go_ret
  exact ⟨_, _, rfl, F5.out⟩
 ·go_enter Tryz.func111, Tryz.ntmps111
  go_wp2_with fail
  refine (cloneItem_own b 2 (n - 1) _ (fun i => H (i + 1)) _ (by have := HN.out; omega) (SR.out.below BA.out)).mono ?_
  rintro e w5 ⟨a5, c5, rfl, o5, n5, b5⟩
  have F5 : Hid (w5.ownsRow w.heap.size 126 2 (.slice a5 (n - 1) c5) (n - 1) (fT (fun i => H (i + 1)) (n - 1)) /\ Value.slice a5 (n - 1) c5 ≠ .slice none 0 0 /\ Below w.heap.size w w5) := ⟨o5.mono (by simp), n5, BA.out.trans (b5.mono BA.out.size)⟩
  clear o5 n5 b5
  go_wp2
  go_ret
  exact ⟨_, _, rfl, F5.out⟩
end Go.Proofs.YtcplnkhdclcgfaaGreatDoor
