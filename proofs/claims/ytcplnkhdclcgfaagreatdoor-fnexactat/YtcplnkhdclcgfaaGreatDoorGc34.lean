/- The walks of the program's copyLists. -/
import Derived.Test.YtcplnkhdclcgfaaGreatDoorGc0
import Derived.Test.YtcplnkhdclcgfaaGreatDoorGc32
import Derived.Deep.RegionHeld3
import Derived.Deep.RegionWith
import Derived.Deep.RegionLaw
import Derived.Test.YtcplnkhdclcgfaaGreatDoorGc27
namespace Go.Proofs.YtcplnkhdclcgfaaGreatDoor
set_option maxRecDepth 100000
set_option maxHeartbeats 1000000
open Go.ChangeShapes Go.WideShapes Go.ChangeAt Go.RowKit Go.Deep
structure EvK (w : World) (N : Nat) (k q v : Int) : Prop where
 c0 : w.cell? ⟨N, 0, none⟩ = some (.int .i64 k)
 c1 : w.cell? ⟨N, 1, none⟩ = some (.int .i64 q)
 c2 : w.cell? ⟨N, 2, none⟩ = some (.int .i64 v)
 fr : ∀ j, w.frozen? ⟨N, j, none⟩ = false
def Sy.nk (y : Sy) (p : Nat) : Int := nxK (y.pH p) (y.pL p) (y.sS p).p (y.sS p).rs (y.sS p).os (y.sS p).c
def Sy.nq (y : Sy) (p : Nat) : Int := nxP (y.pH p) (y.pL p) (y.sS p).p (y.sS p).rs (y.sS p).os (y.sS p).c
def Sy.nv (y : Sy) (p : Nat) : Int := nxW (y.pH p) (y.pL p) (y.sS p).p (y.sS p).rs (y.sS p).os (y.sS p).c
def tkS (y : Sy) (p : Nat) (f : Int) : Int := if belB f y.pn = true then (if y.wL (f.toNat * y.pn + p) = 0 then 3 else if (y.wH (f.toNat * y.pn + p) 0).m = true then 5 else 0) else 2
def fuS (y : Sy) (p : Nat) (k q : Int) : Bool := decide (200 ≤ y.hL p) || (k == 2 && decide (12 ≤ y.wL (p * y.pn + q.toNat)))
def cmS (y : Sy) (p : Nat) (f : Int) : Int := if (y.sS p).c ≠ 0 then 6 else if fuS y p (y.nk p) (y.nq p) = true then 4 else if y.nk p = 3 then tkS y p (if y.nq p = 9 then f else y.nq p) else 0
theorem rp_okS {g : Nat → I5} {n : Nat} {eh : Nat → E3} (hp : progOkB g n 4 = true) : ∀ k S, rp g n eh k = some S → OkS n S
 | 0, S, h => by
  simp only [rp, Option.some.injEq] at h
  subst h
  exact newS_ok hp
 | k + 1, S, h => by
  simp only [rp] at h
  cases hr : rp g n eh k with
  | none => rw [hr] at h; cases h
  | some S0 =>
   rw [hr] at h
   simp only [Option.bind_some, rpStep] at h
   split at h
   ·rename_i hd
    simp only [Option.some.injEq] at h
    subst h
    exact doS_ok hd
   ·cases h
theorem Sy.Ok.four {y : Sy} (h : y.Ok) {p : Nat} (hp : p < y.pn) : progOkB (y.pH p) (y.pL p) 4 = true := (repO_some (h.rp p hp)).1
theorem Sy.Ok.le200 {y : Sy} (h : y.Ok) {p : Nat} (hp : p < y.pn) : y.hL p ≤ 200 := (repO_some (h.rp p hp)).2.1
theorem Sy.Ok.st {y : Sy} (h : y.Ok) {p : Nat} (hp : p < y.pn) : OkS (y.pL p) (y.sS p) := rp_okS (h.four hp) _ _ (repO_some (h.rp p hp)).2.2
theorem Sy.Ok.way {y : Sy} (h : y.Ok) {a b : Nat} (ha : a < y.pn) (hb : b < y.pn) : y.wL (a * y.pn + b) ≤ 12 := (h.wa a ha b hb).le
variable {z : Bool}
def Sy.setW (y : Sy) (i m : Nat) (H : Nat → I2) : Sy := { y with wL := fun j => if j = i then m else y.wL j, wH := fun j => if j = i then H else y.wH j }
def Sy.setH (y : Sy) (i m : Nat) (H : Nat → E3) : Sy := { y with hL := fun j => if j = i then m else y.hL j, hH := fun j => if j = i then H else y.hH j }
def Sy.setS (y : Sy) (i : Nat) (T : S4) : Sy := { y with sS := fun j => if j = i then T else y.sS j }
theorem OwnS.putW {w w1 : World} {B : Nat} {c : Nat → Nat} {y : Sy} {vp vs vh : Value} {g cap : Nat} {up us uw uh : Nat → Value} (o : OwnS z w B c y vp vs (.slice (some ⟨g, 0, none⟩) y.wn cap) vh up us uw uh) {i : Nat} (hi : i < y.wn) {u' : Value} {m : Nat} {H' : Nat → I2} (hB : B ≤ w.heap.size) (hs : w.heap.size ≤ w1.heap.size) (g1 : ∀ k, k < w.heap.size → (uw i).ownBlock ≠ some k → w1.heap[k]? = w.heap[k]?)
  (hu : w1.ownsRow 0 126 2 u' m (fT H' m)) (hne : u' ≠ .slice none 0 0) (hb : ∀ k, u'.ownBlock = some k → (uw i).ownBlock = some k ∨ w.heap.size ≤ k) :
  OwnS z (w1.setCell ⟨g, i, none⟩ u') B (rcol c w.heap.size 3) (y.setW i m H') vp vs (.slice (some ⟨g, 0, none⟩) y.wn cap) vh up us (fun j => if j = i then u' else uw j) uh := by
 have hP : ∀ q k, Cl B c q k → k < w.heap.size → Cl B (rcol c w.heap.size 3) q k := fun q k h hl => h.old hl
 have hg : Cl B c 3 g := o.t.rb g rfl
 have hgl : g < w.heap.size := (o.t.row.lt g rfl).2
 have hk : ∀ q, q ≠ 3 → ∀ k, Cl B (rcol c w.heap.size 3) q k → k < w.heap.size → (w1.setCell ⟨g, i, none⟩ u').heap[k]? = w.heap[k]? := fun q hq k h hl => by
  have e : c k = q := (rcol_old hl).symm.trans h.2
  refine (Below.heap_setCell _ _ _ _ fun ek => hq ?_).trans (g1 k hl fun ek => hq ?_)
  ·rw [← e, ek]; exact hg.2
  ·rw [← e]; exact (o.t.ob i hi k ek).2
 refine ⟨(o.p.mono (hP 1)).keep (hk 1 (by decide)), (o.s.mono (hP 2)).keep (hk 2 (by decide)), ?_, (o.h.mono (hP 4)).keep (hk 4 (by decide))⟩
 have h := LL.put o.t hi hs g1 hu (fun _ => hne) hb (P' := Cl B (rcol c w.heap.size 3) 3) (hP 3) fun k h _ => ⟨Nat.le_trans hB h, rcol_new h⟩
 have e : (fun j => if j = i then fT H' m else fT (y.wH j) (y.wL j)) = fun j => fT ((y.setW i m H').wH j) ((y.setW i m H').wL j) := funext fun j => by
  by_cases q : j = i
  ·simp [Sy.setW, q]
  ·simp [Sy.setW, q]
 rw [e] at h
 exact h
def Sy.way (y : Sy) (p : Nat) (k q v : Int) : Sy :=
 { y with
  wL := if k = 2 then fun j => if j = p * y.pn + q.toNat then y.wL (p * y.pn + q.toNat) + 1 else y.wL j
   else if k = 3 then fun j => if j = q.toNat * y.pn + p then y.wL (q.toNat * y.pn + p) - 1 else y.wL j else y.wL
  wH := if k = 2 then fun j => if j = p * y.pn + q.toNat then (fun i => if i = y.wL (p * y.pn + q.toNat) then ⟨false, v⟩ else y.wH (p * y.pn + q.toNat) i) else y.wH j
   else if k = 3 then fun j => if j = q.toNat * y.pn + p then (fun i => y.wH (q.toNat * y.pn + p) (i + 1)) else y.wH j else y.wH }
def Sy.evt (y : Sy) (p : Nat) (k q v : Int) : Sy :=
 (y.setS p (doS (y.pH p) (y.pL p) (y.sS p).p (y.sS p).rs (y.sS p).os (y.sS p).c k q v)).setH p (y.hL p + 1) (fun i => if i = y.hL p then ⟨k, q, v⟩ else y.hH p i)
def Sy.eq (y : Sy) (p : Nat) (f : Int) : Int := if y.nk p = 3 then (if y.nq p = 9 then f else y.nq p) else y.nq p
def Sy.ev (y : Sy) (p : Nat) (f : Int) : Int := if y.nk p = 3 then (y.wH ((y.eq p f).toNat * y.pn + p) 0).v else y.nv p
def Sy.step (y : Sy) (p : Nat) (f : Int) : Sy := if cmS y p f = 0 then (y.way p (y.nk p) (y.eq p f) (y.ev p f)).evt p (y.nk p) (y.eq p f) (y.ev p f) else y
variable {z : Bool}
theorem run_make_kind {t e : TypeId} {bytes : Nat} (K : Kind t e 1 bytes) (n : Nat) (hn : n ≤ 1048576) : ∃ cs : Array Value, cs.size = n ∧ ∀ w : World, (Instr.makeSlice t (.int .i64 0) (.int .i64 (n : Int))).run Tryz.prog w = .ok (.slice (some ⟨w.heap.size, 0, none⟩) 0 n) (w.alloc (.cells cs e)) := by
 obtain ⟨i, z, hi, hz, hs, hb, hzs⟩ := K.inf
 refine ⟨madeCells z.cells n, size_madeCells _ _, fun w => ?_⟩
 have hby : i.bytes * n ≤ 281474976710656 := by
  rw [hb]
  exact Nat.le_trans (Nat.mul_le_mul K.sml hn) (by omega)
 have hby' : (i.bytes : Int) * (n : Int) ≤ 281474976710656 := by rw [← Int.natCast_mul]; exact Int.ofNat_le.2 hby
 have h := run_make (P := Tryz.prog) w t e i z K.und hi hz .i64 .i64 0 (n : Int) (by omega) (by omega) hby' (by omega)
 rw [hs, Nat.mul_one, Int.toNat_natCast] at h
 exact h
theorem LL.made (e : TypeId) (sz : Nat) (E : TypeId) (w : World) (cs : Array Value) (n : Nat) (hn : n ≤ 1048576) (hc : cs.size = n) (P : Nat → Prop) (hP : P w.heap.size) (u : Nat → Value) (L : Nat → Nat) (c : Nat → List Value) : LL z e sz E (w.alloc (.cells cs E)) P (.slice (some ⟨w.heap.size, 0, none⟩) 0 n) 0 u L c :=
 ⟨World.ownsRow_made (base := 0) (e := E) (size := 1) w cs n (Nat.zero_le _) (by unfold maxLen; omega) (by rw [hc, Nat.mul_one]), fun i hi => (by omega), fun k hk => (by cases hk; exact hP), fun i hi => (by omega), fun i hi => (by omega), fun i j hi => (by omega), fun i hi => (by omega)⟩
theorem cloneIns_own (b off n cap : Nat) (H : Nat → I5) (w : World) (hn : n ≤ 1048576) (hI : Src w (some ⟨b, off, none⟩) (fI H n)) :
  Calls Tryz.prog 148 #[.slice (some ⟨b, off, none⟩) n cap] w fun e w' => ∃ a c, e = .returned (.slice a n c) ∧ w'.ownsRow w.heap.size 99 5 (.slice a n c) n (fI H n) ∧ Value.slice a n c ≠ .slice none 0 0 ∧ Below w.heap.size w w' := by
 have HI : Hid (Src w (some ⟨b, off, none⟩) (fI H n)) := hI
 have he : ∀ wx : World, (binOp .eql 102 (.slice (some ⟨b, off, none⟩) n cap) (.slice none 0 0)).run Tryz.prog wx = .ok (.bool false) wx := fun wx => by kernel_rfl
 clear hI
 go_enter Tryz.func148, Tryz.ntmps148
 go_wp2_with (at_builtin; refine step_append_srcN kndI w rfl rfl _ _ rfl (some ⟨b, off, none⟩) n cap (fI H n) rfl rfl (fI_len _ _) HI.out (fI_one _ _) (by omega) ?_; intro v4 w4 o4 b4 n4; obtain ⟨a4, c4, rfl⟩ := ownsRow_slice o4; have F4 : Hid (w4.ownsRow w.heap.size 99 5 (.slice a4 n c4) n (fI H n) ∧ Value.slice a4 n c4 ≠ .slice none 0 0 ∧ Below w.heap.size w w4) := ⟨o4, n4, b4⟩; clear o4 b4 n4)
 go_ret
 exact ⟨_, _, rfl, F4.out⟩
theorem copyListsIns_own (a0 : Option Addr) (n cap : Nat) (A : Nat → Option Addr) (L C : Nat → Nat) (H : Nat → Nat → I5) (w : World) (hn : n ≤ 1048576) (hL : ∀ i, i < n → L i ≤ 1048576) (hr : RowS w a0 n fun i => .slice (A i) (L i) (C i)) (hI : ∀ i, i < n → ∃ b off, A i = some ⟨b, off, none⟩ ∧ Src w (A i) (fI (H i) (L i))) :
  Calls Tryz.prog 68 #[.slice a0 n cap] w fun e w' => ∃ v u, e = .returned v ∧ LI z w' (fun k => w.heap.size ≤ k ∧ k < w'.heap.size) v n u L H ∧ Below w.heap.size w w' := by
 have hn' : (n : Int) ≤ 1048576 := by omega
 obtain ⟨cs, hcs, hmk⟩ := run_make_kind kndII n hn
 have HCS : Hid (cs.size = n) := hcs
 have HR : Hid (RowS w a0 n fun i => .slice (A i) (L i) (C i)) := hr
 have HI : Hid (∀ i, i < n → ∃ b off, A i = some ⟨b, off, none⟩ ∧ Src w (A i) (fI (H i) (L i))) := hI
 have HL : Hid (∀ i, i < n → L i ≤ 1048576) := hL
 clear hr hI hL hcs
 go_enter Tryz.func68, Tryz.ntmps68
 go_wp2_with fail
 clear hmk
 go_loopw [3, 11] (fun v i wr => ∃ k : Nat, k ≤ n ∧ i = .int .i64 k ∧ Hid ((∃ u, LI z wr (fun b => w.heap.size ≤ b ∧ b < wr.heap.size) v k u L H) ∧ Below w.heap.size w wr)) (fun _ i _ => n - (intOf i).toNat)
 case atStart => exact ⟨0, Nat.zero_le _, rfl, ⟨fun _ => .slice none 0 0, LL.made _ _ _ w _ n hn HCS.out _ (by simp) _ _ _⟩, below_allocL _ _⟩
 case round =>
  obtain ⟨k, hk, rfl, HZ⟩ := hrel
  by_cases hlt : k < n
  ·have hlt' : (k : Int) < (n : Int) := by omega
   obtain ⟨b, off, rfl, ck⟩ := (HR.out.below HZ.out.2).at hlt
   have hbl : b < wr.heap.size := World.block_lt_of_cell? wr _ ck
   obtain ⟨b2, o2, ea, hsr⟩ := HI.out k hlt
   rw [ea] at hsr ck
   have HS : Hid (Src wr (some ⟨b2, o2, none⟩) (fI (H k) (L k))) := hsr.below HZ.out.2
   have HLk : Hid (L k ≤ 1048576) := HL.out k hlt
   have hk2 : Hid (k ≤ 2000000) := by show k ≤ 2000000; omega
   obtain ⟨⟨u, oz⟩, bz⟩ := HZ.out
   have OZ : Hid (LI z wr (fun b => w.heap.size ≤ b ∧ b < wr.heap.size) u3 k u L H) := oz
   have BZ : Hid (Below w.heap.size w wr) := bz
   clear oz bz HZ hsr ea
   go_wp2_with fail
   refine (cloneIns_own b2 o2 (L k) (C k) (H k) wr HLk.out HS.out).mono ?_
   rintro e w4 ⟨a4, c4, rfl, o4, n4, b4⟩
   have F4 : Hid (w4.ownsRow wr.heap.size 99 5 (.slice a4 (L k) c4) (L k) (fI (H k) (L k)) ∧ Below wr.heap.size wr w4 ∧ Value.slice a4 (L k) c4 ≠ .slice none 0 0) := ⟨o4, b4, n4⟩
   clear o4 b4 n4 ck hbl
   go_wp2_with (at_builtin; refine step_append_val kndII w4 rfl rfl _ _ rfl 0 u3 k _ rfl (OZ.out.below F4.out.2.1).row #[.slice a4 (L k) c4] rfl rfl (by intro u hu; simp at hu; subst hu; rfl) hk2.out (Nat.zero_le _) ?_; intro v5 w5 o5 g5 q5 n5; have F5 : Hid (LI z w5 (fun b => w.heap.size ≤ b ∧ b < w5.heap.size) v5 (k + 1) (fun j => if j = k then .slice a4 (L k) c4 else u j) L H ∧ Below w.heap.size w w5) := ⟨OZ.out.push F4.out.2.1 F4.out.1 (fun _ => F4.out.2.2) o5 g5 q5 (fun j hj _ => ⟨hj.1, Nat.lt_of_lt_of_le hj.2 (Nat.le_trans F4.out.2.1.size g5.size)⟩) (fun j hj hj' => ⟨Nat.le_trans BZ.out.size hj, hj'⟩), Below.grown (BZ.out.trans (F4.out.2.1.mono BZ.out.size)) g5 (Nat.le_trans BZ.out.size F4.out.2.1.size) (fun j hj => (OZ.out.rb j hj).1)⟩; clear o5 g5 q5 n5)
   go_roundw
   case rel => exact ⟨k + 1, by omega, by go_num, ⟨_, F5.out.1⟩, F5.out.2⟩
   case measure => simp [intOf]; omega
  ·have hkn : k = n := by omega
   subst hkn
   go_wp2
   go_ret
   obtain ⟨⟨u, oz⟩, bz⟩ := HZ.out
   exact ⟨_, u, rfl, oz, bz⟩
end Go.Proofs.YtcplnkhdclcgfaaGreatDoor
