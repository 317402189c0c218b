/- The walks of slices.Grow and slices.Concat, and of a queue's with. -/
import Derived.Test.YtcplnkhdclcgfaaGreatDoorSd0
import Derived.Test.YtcplnkhdclcgfaaGreatDoorSd30
import Derived.Test.YtcplnkhdclcgfaaGreatDoorSd32
import Derived.Lib.AppendZerosOnto
import Derived.Lib.Walk
import Derived.Lib.SliceRun
import Derived.Maps.AppendAt
namespace Go.Proofs.YtcplnkhdclcgfaaGreatDoor
set_option maxRecDepth 100000
set_option maxHeartbeats 2000000
open Go.ChangeShapes Go.WideShapes Go.ChangeAt Go.RowKit Go.Deep
variable {z : Bool}
theorem run_make_kind {t e : TypeId} {bytes : Nat} (K : Kind t e 1 bytes) (n : Nat) (hn : n <= 1048576) : ∃ cs : Array Value, cs.size = n /\ ∀ w : World, (Instr.makeSlice t (.int .i64 0) (.int .i64 (n : Int))).run Tryz.prog w = .ok (.slice (some ⟨w.heap.size, 0, none⟩) 0 n) (w.alloc (.cells cs e)) := by
 obtain ⟨i, z, hi, hz, hs, hb, hzs⟩ := K.inf
 refine ⟨madeCells z.cells n, size_madeCells _ _, fun w => ?_⟩
 have hby : i.bytes * n <= 281474976710656 := by
  rw [hb]
  exact zP (Nat.mul_le_mul K.sml hn) (by omega)
 have hby' : (i.bytes : Int) * (n : Int) <= 281474976710656 := by rw [<- Int.natCast_mul]; exact Int.ofNat_le.2 hby
 have h := run_make (P := Tryz.prog) w t e i z K.und hi hz .i64 .i64 0 (n : Int) (by omega) (by omega) hby' (by omega)
 rw [hs, Nat.mul_one, Int.toNat_natCast] at h
 exact h
theorem LL.made (e : TypeId) (sz : Nat) (E : TypeId) (w : World) (cs : Array Value) (n : Nat) (hn : n <= 1048576) (hc : cs.size = n) (P : Nat -> Prop) (hP : P w.heap.size) (u : Nat -> Value) (L : Nat -> Nat) (c : Nat -> List Value) : LL z e sz E (w.alloc (.cells cs E)) P (.slice (some ⟨w.heap.size, 0, none⟩) 0 n) 0 u L c :=
 ⟨World.ownsRow_made (base := 0) (e := E) (size := 1) w cs n (Nat.zero_le _) (by unfold maxLen; omega) (by rw [hc, Nat.mul_one]), fun i hi => (by omega), fun k hk => (by cases hk; exact hP), fun i hi => (by omega), fun i hi => (by omega), fun i j hi => (by omega), fun i hi => (by omega)⟩
theorem cloneIns_own (b off n cap : Nat) (H : Nat -> I5) (w : World) (hn : n <= 1048576) (hI : Src w (some ⟨b, off, none⟩) (fI H n)) :
  Calls Tryz.prog 148 #[.slice (some ⟨b, off, none⟩) n cap] w fun e w' => ∃ a c, e = .returned (.slice a n c) /\ w'.ownsRow w.heap.size 99 5 (.slice a n c) n (fI H n) /\ Value.slice a n c ≠ .slice none 0 0 /\ Below w.heap.size w w' := by
 have HI : Hid (Src w (some ⟨b, off, none⟩) (fI H n)) := hI
 have he : ∀ wx : World, (binOp .eql 102 (.slice (some ⟨b, off, none⟩) n cap) (.slice none 0 0)).run Tryz.prog wx = .ok (.bool false) wx := fun wx => by kernel_rfl
 clear hI
 go_enter Tryz.func148, Tryz.ntmps148
 go_wp2_with (at_builtin; refine step_append_srcN kndI w rfl rfl _ _ rfl (some ⟨b, off, none⟩) n cap (fI H n) rfl rfl (fI_len _ _) HI.out (fI_one _ _) (by omega) ?_; intro v4 w4 o4 b4 n4; obtain ⟨a4, c4, rfl⟩ := zU o4; have F4 : Hid (w4.ownsRow w.heap.size 99 5 (.slice a4 n c4) n (fI H n) /\ Value.slice a4 n c4 ≠ .slice none 0 0 /\ Below w.heap.size w w4) := ⟨o4, n4, b4⟩; clear o4 b4 n4)
 go_ret
 exact ⟨_, _, rfl, F4.out⟩
theorem copyListsIns_own (a0 : Option Addr) (n cap : Nat) (A : Nat -> Option Addr) (L C : Nat -> Nat) (H : Nat -> Nat -> I5) (w : World) (hn : n <= 1048576) (hL : ∀ i, i < n -> L i <= 1048576) (hr : RowS w a0 n fun i => .slice (A i) (L i) (C i)) (hI : ∀ i, i < n -> ∃ b off, A i = some ⟨b, off, none⟩ /\ Src w (A i) (fI (H i) (L i))) :
  Calls Tryz.prog 68 #[.slice a0 n cap] w fun e w' => ∃ v u, e = .returned v /\ LI z w' (fun k => w.heap.size <= k /\ k < w'.heap.size) v n u L H /\ Below w.heap.size w w' := by
 have hn' : (n : Int) <= 1048576 := by omega
 obtain ⟨cs, hcs, hmk⟩ := run_make_kind kndII n hn
 have HCS : Hid (cs.size = n) := hcs
 have HR : Hid (RowS w a0 n fun i => .slice (A i) (L i) (C i)) := hr
 have HI : Hid (∀ i, i < n -> ∃ b off, A i = some ⟨b, off, none⟩ /\ Src w (A i) (fI (H i) (L i))) := hI
 have HL : Hid (∀ i, i < n -> L i <= 1048576) := hL
 clear hr hI hL hcs
 go_enter Tryz.func68, Tryz.ntmps68
 go_wp2_with fail
 clear hmk
 go_loopw [3, 11] (fun v i wr => ∃ k : Nat, k <= n /\ i = .int .i64 k /\ Hid ((∃ u, LI z wr (fun b => w.heap.size <= b /\ b < wr.heap.size) v k u L H) /\ Below w.heap.size w wr)) (fun _ i _ => n - (intOf i).toNat)
 case atStart => exact ⟨0, Nat.zero_le _, rfl, ⟨fun _ => .slice none 0 0, LL.made _ _ _ w _ n hn HCS.out _ (by simp) _ _ _⟩, zQ _ _⟩
 case round =>
  obtain ⟨k, hk, rfl, HZ⟩ := hrel
  by_cases hlt : k < n
  ·have hlt' : (k : Int) < (n : Int) := by omega
   obtain ⟨b, off, rfl, ck⟩ := (HR.out.below HZ.out.2).at hlt
   have hbl : b < wr.heap.size := zJ wr _ ck
   obtain ⟨b2, o2, ea, hsr⟩ := HI.out k hlt
   rw [ea] at hsr ck
   have HS : Hid (Src wr (some ⟨b2, o2, none⟩) (fI (H k) (L k))) := hsr.below HZ.out.2
   have HLk : Hid (L k <= 1048576) := HL.out k hlt
   have hk2 : Hid (k <= 2000000) := by show k <= 2000000; omega
   obtain ⟨⟨u, oz⟩, bz⟩ := HZ.out
   have OZ : Hid (LI z wr (fun b => w.heap.size <= b /\ b < wr.heap.size) u3 k u L H) := oz
   have BZ : Hid (Below w.heap.size w wr) := bz
   clear oz bz HZ hsr ea
   go_wp2_with fail
   refine (cloneIns_own b2 o2 (L k) (C k) (H k) wr HLk.out HS.out).mono ?_
   rintro e w4 ⟨a4, c4, rfl, o4, n4, b4⟩
   have F4 : Hid (w4.ownsRow wr.heap.size 99 5 (.slice a4 (L k) c4) (L k) (fI (H k) (L k)) /\ Below wr.heap.size wr w4 /\ Value.slice a4 (L k) c4 ≠ .slice none 0 0) := ⟨o4, b4, n4⟩
   clear o4 b4 n4 ck hbl
   go_wp2_with (at_builtin; refine step_append_val kndII w4 rfl rfl _ _ rfl 0 u3 k _ rfl (OZ.out.below F4.out.2.1).row #[.slice a4 (L k) c4] rfl rfl (by intro u hu; simp at hu; subst hu; rfl) hk2.out (Nat.zero_le _) ?_; intro v5 w5 o5 g5 q5 n5; have F5 : Hid (LI z w5 (fun b => w.heap.size <= b /\ b < w5.heap.size) v5 (k + 1) (fun j => if j = k then .slice a4 (L k) c4 else u j) L H /\ Below w.heap.size w w5) := ⟨OZ.out.push F4.out.2.1 F4.out.1 (fun _ => F4.out.2.2) o5 g5 q5 (fun j hj _ => ⟨hj.1, zL hj.2 (zP F4.out.2.1.size g5.size)⟩) (fun j hj hj' => ⟨zP BZ.out.size hj, hj'⟩), Below.grown (BZ.out.trans (F4.out.2.1.mono BZ.out.size)) g5 (zP BZ.out.size F4.out.2.1.size) (fun j hj => (OZ.out.rb j hj).1)⟩; clear o5 g5 q5 n5)
   go_roundw
   case rel => exact ⟨k + 1, by omega, by go_num, ⟨_, F5.out.1⟩, F5.out.2⟩
   case measure => simp [intOf]; omega
  ·have hkn : k = n := by omega
   subst hkn
   go_wp2
   go_ret
   obtain ⟨⟨u, oz⟩, bz⟩ := HZ.out
   exact ⟨_, u, rfl, oz, bz⟩
theorem cloneItem_own (b off n cap : Nat) (H : Nat -> I2) (w : World) (hn : n <= 1048576) (hI : Src w (some ⟨b, off, none⟩) (fT H n)) :
  Calls Tryz.prog 175 #[.slice (some ⟨b, off, none⟩) n cap] w fun e w' => ∃ a c, e = .returned (.slice a n c) /\ w'.ownsRow w.heap.size 126 2 (.slice a n c) n (fT H n) /\ Value.slice a n c ≠ .slice none 0 0 /\ Below w.heap.size w w' := by
 have HI : Hid (Src w (some ⟨b, off, none⟩) (fT H n)) := hI
 have he : ∀ wx : World, (binOp .eql 124 (.slice (some ⟨b, off, none⟩) n cap) (.slice none 0 0)).run Tryz.prog wx = .ok (.bool false) wx := fun wx => by kernel_rfl
 clear hI
 go_enter Tryz.func175, Tryz.ntmps175
 go_wp2_with (at_builtin; refine step_append_srcN kndT w rfl rfl _ _ rfl (some ⟨b, off, none⟩) n cap (fT H n) rfl rfl (fT_len _ _) HI.out (fT_one _ _) (by omega) ?_; intro v4 w4 o4 b4 n4; obtain ⟨a4, c4, rfl⟩ := zU o4; have F4 : Hid (w4.ownsRow w.heap.size 126 2 (.slice a4 n c4) n (fT H n) /\ Value.slice a4 n c4 ≠ .slice none 0 0 /\ Below w.heap.size w w4) := ⟨o4, n4, b4⟩; clear o4 b4 n4)
 go_ret
 exact ⟨_, _, rfl, F4.out⟩
theorem cloneItem_none (w : World) :
  Calls Tryz.prog 175 #[.slice none 0 0] w fun e w' => e = .returned (.slice none 0 0) /\ Below w.heap.size w w' := by
 have he : ∀ wx : World, (binOp .eql 124 (.slice none 0 0) (.slice none 0 0)).run Tryz.prog wx = .ok (.bool true) wx := fun wx => by kernel_rfl
 go_enter Tryz.func175, Tryz.ntmps175
 go_wp2
 go_ret
 exact ⟨rfl, Below.refl _ _⟩
theorem copyListsItem_own (a0 : Option Addr) (n cap : Nat) (A : Nat -> Option Addr) (L C : Nat -> Nat) (H : Nat -> Nat -> I2) (w : World) (hn : n <= 1048576) (hL : ∀ i, i < n -> L i <= 1048576) (hr : RowS w a0 n fun i => .slice (A i) (L i) (C i)) (hI : ∀ i, i < n -> (∃ b off, A i = some ⟨b, off, none⟩ /\ Src w (A i) (fT (H i) (L i))) \/ (z = false /\ A i = none /\ L i = 0 /\ C i = 0)) :
  Calls Tryz.prog 99 #[.slice a0 n cap] w fun e w' => ∃ v u, e = .returned v /\ LT z w' (fun k => w.heap.size <= k /\ k < w'.heap.size) v n u L H /\ Below w.heap.size w w' := by
 have hn' : (n : Int) <= 1048576 := by omega
 obtain ⟨cs, hcs, hmk⟩ := run_make_kind kndTT n hn
 have HCS : Hid (cs.size = n) := hcs
 have HR : Hid (RowS w a0 n fun i => .slice (A i) (L i) (C i)) := hr
 have HI : Hid (∀ i, i < n -> (∃ b off, A i = some ⟨b, off, none⟩ /\ Src w (A i) (fT (H i) (L i))) \/ (z = false /\ A i = none /\ L i = 0 /\ C i = 0)) := hI
 have HL : Hid (∀ i, i < n -> L i <= 1048576) := hL
 clear hr hI hL hcs
 go_enter Tryz.func99, Tryz.ntmps99
 go_wp2_with fail
 clear hmk
 go_loopw [3, 11] (fun v i wr => ∃ k : Nat, k <= n /\ i = .int .i64 k /\ Hid ((∃ u, LT z wr (fun b => w.heap.size <= b /\ b < wr.heap.size) v k u L H) /\ Below w.heap.size w wr)) (fun _ i _ => n - (intOf i).toNat)
 case atStart => exact ⟨0, Nat.zero_le _, rfl, ⟨fun _ => .slice none 0 0, LL.made _ _ _ w _ n hn HCS.out _ (by simp) _ _ _⟩, zQ _ _⟩
 case round =>
  obtain ⟨k, hk, rfl, HZ⟩ := hrel
  by_cases hlt : k < n
  ·have hlt' : (k : Int) < (n : Int) := by omega
   obtain ⟨b, off, rfl, ck⟩ := (HR.out.below HZ.out.2).at hlt
   have hbl : b < wr.heap.size := zJ wr _ ck
   rcases HI.out k hlt with ⟨b2, o2, ea, hsr⟩ | ⟨hz, ea, eL, eC⟩
   ·rw [ea] at hsr ck
    have HS : Hid (Src wr (some ⟨b2, o2, none⟩) (fT (H k) (L k))) := hsr.below HZ.out.2
    have HLk : Hid (L k <= 1048576) := HL.out k hlt
    have hk2 : Hid (k <= 2000000) := by show k <= 2000000; omega
    obtain ⟨⟨u, oz⟩, bz⟩ := HZ.out
    have OZ : Hid (LT z wr (fun b => w.heap.size <= b /\ b < wr.heap.size) u3 k u L H) := oz
    have BZ : Hid (Below w.heap.size w wr) := bz
    clear oz bz HZ hsr ea
    go_wp2_with fail
    refine (cloneItem_own b2 o2 (L k) (C k) (H k) wr HLk.out HS.out).mono ?_
    rintro e w4 ⟨a4, c4, rfl, o4, n4, b4⟩
    have F4 : Hid (w4.ownsRow wr.heap.size 126 2 (.slice a4 (L k) c4) (L k) (fT (H k) (L k)) /\ Below wr.heap.size wr w4 /\ Value.slice a4 (L k) c4 ≠ .slice none 0 0) := ⟨o4, b4, n4⟩
    clear o4 b4 n4 ck hbl
    go_wp2_with (at_builtin; refine step_append_val kndTT w4 rfl rfl _ _ rfl 0 u3 k _ rfl (OZ.out.below F4.out.2.1).row #[.slice a4 (L k) c4] rfl rfl (by intro u hu; simp at hu; subst hu; rfl) hk2.out (Nat.zero_le _) ?_; intro v5 w5 o5 g5 q5 n5; have F5 : Hid (LT z w5 (fun b => w.heap.size <= b /\ b < w5.heap.size) v5 (k + 1) (fun j => if j = k then .slice a4 (L k) c4 else u j) L H /\ Below w.heap.size w w5) := ⟨OZ.out.push F4.out.2.1 F4.out.1 (fun _ => F4.out.2.2) o5 g5 q5 (fun j hj _ => ⟨hj.1, zL hj.2 (zP F4.out.2.1.size g5.size)⟩) (fun j hj hj' => ⟨zP BZ.out.size hj, hj'⟩), Below.grown (BZ.out.trans (F4.out.2.1.mono BZ.out.size)) g5 (zP BZ.out.size F4.out.2.1.size) (fun j hj => (OZ.out.rb j hj).1)⟩; clear o5 g5 q5 n5)
    go_roundw
    case rel => exact ⟨k + 1, by omega, by go_num, ⟨_, F5.out.1⟩, F5.out.2⟩
    case measure => simp [intOf]; omega
   ·rw [ea, eL, eC] at ck
    have HNz : Hid (¬ Nz z 126) := fun h => by
     rcases h with h | h
     ·rw [hz] at h
      cases h
     ·exact absurd h (by decide)
    have hk2 : Hid (k <= 2000000) := by show k <= 2000000; omega
    obtain ⟨⟨u, oz⟩, bz⟩ := HZ.out
    have OZ : Hid (LT z wr (fun b => w.heap.size <= b /\ b < wr.heap.size) u3 k u L H) := oz
    have BZ : Hid (Below w.heap.size w wr) := bz
    have HE : Hid (L k = 0) := eL
    clear oz bz HZ ea eL eC hz
    go_wp2_with fail
    refine (cloneItem_none wr).mono ?_
    rintro e w4 ⟨rfl, b4⟩
    have F4 : Hid (w4.ownsRow wr.heap.size 126 2 (.slice none 0 0) (L k) (fT (H k) (L k)) /\ Below wr.heap.size wr w4) := ⟨by rw [HE.out]; exact World.ownsRow_nil _ _ _ _, b4⟩
    clear b4 ck hbl
    go_wp2_with (at_builtin; refine step_append_val kndTT w4 rfl rfl _ _ rfl 0 u3 k _ rfl (OZ.out.below F4.out.2).row #[.slice none 0 0] rfl rfl (by intro u hu; simp at hu; subst hu; rfl) hk2.out (Nat.zero_le _) ?_; intro v5 w5 o5 g5 q5 n5; have F5 : Hid (LT z w5 (fun b => w.heap.size <= b /\ b < w5.heap.size) v5 (k + 1) (fun j => if j = k then .slice none 0 0 else u j) L H /\ Below w.heap.size w w5) := ⟨OZ.out.push F4.out.2 F4.out.1 (fun h => absurd h HNz.out) o5 g5 q5 (fun j hj _ => ⟨hj.1, zL hj.2 (zP F4.out.2.size g5.size)⟩) (fun j hj hj' => ⟨zP BZ.out.size hj, hj'⟩), Below.grown (BZ.out.trans (F4.out.2.mono BZ.out.size)) g5 (zP BZ.out.size F4.out.2.size) (fun j hj => (OZ.out.rb j hj).1)⟩; clear o5 g5 q5 n5)
    go_roundw
    case rel => exact ⟨k + 1, by omega, by go_num, ⟨_, F5.out.1⟩, F5.out.2⟩
    case measure => simp [intOf]; omega
  ·have hkn : k = n := by omega
   subst hkn
   go_wp2
   go_ret
   obtain ⟨⟨u, oz⟩, bz⟩ := HZ.out
   exact ⟨_, u, rfl, oz, bz⟩
theorem cloneEvent_own (b off n cap : Nat) (H : Nat -> E3) (w : World) (hn : n <= 1048576) (hI : Src w (some ⟨b, off, none⟩) (fE H n)) :
  Calls Tryz.prog 176 #[.slice (some ⟨b, off, none⟩) n cap] w fun e w' => ∃ a c, e = .returned (.slice a n c) /\ w'.ownsRow w.heap.size 71 3 (.slice a n c) n (fE H n) /\ Value.slice a n c ≠ .slice none 0 0 /\ Below w.heap.size w w' := by
 have HI : Hid (Src w (some ⟨b, off, none⟩) (fE H n)) := hI
 have he : ∀ wx : World, (binOp .eql 35 (.slice (some ⟨b, off, none⟩) n cap) (.slice none 0 0)).run Tryz.prog wx = .ok (.bool false) wx := fun wx => by kernel_rfl
 clear hI
 go_enter Tryz.func176, Tryz.ntmps176
 go_wp2_with (at_builtin; refine step_append_srcN kndE w rfl rfl _ _ rfl (some ⟨b, off, none⟩) n cap (fE H n) rfl rfl (fE_len _ _) HI.out (fE_one _ _) (by omega) ?_; intro v4 w4 o4 b4 n4; obtain ⟨a4, c4, rfl⟩ := zU o4; have F4 : Hid (w4.ownsRow w.heap.size 71 3 (.slice a4 n c4) n (fE H n) /\ Value.slice a4 n c4 ≠ .slice none 0 0 /\ Below w.heap.size w w4) := ⟨o4, n4, b4⟩; clear o4 b4 n4)
 go_ret
 exact ⟨_, _, rfl, F4.out⟩
theorem cloneEvent_none (w : World) :
  Calls Tryz.prog 176 #[.slice none 0 0] w fun e w' => e = .returned (.slice none 0 0) /\ Below w.heap.size w w' := by
 have he : ∀ wx : World, (binOp .eql 35 (.slice none 0 0) (.slice none 0 0)).run Tryz.prog wx = .ok (.bool true) wx := fun wx => by kernel_rfl
 go_enter Tryz.func176, Tryz.ntmps176
 go_wp2
 go_ret
 exact ⟨rfl, Below.refl _ _⟩
theorem copyListsEvent_own (a0 : Option Addr) (n cap : Nat) (A : Nat -> Option Addr) (L C : Nat -> Nat) (H : Nat -> Nat -> E3) (w : World) (hn : n <= 1048576) (hL : ∀ i, i < n -> L i <= 1048576) (hr : RowS w a0 n fun i => .slice (A i) (L i) (C i)) (hI : ∀ i, i < n -> (∃ b off, A i = some ⟨b, off, none⟩ /\ Src w (A i) (fE (H i) (L i))) \/ (z = false /\ A i = none /\ L i = 0 /\ C i = 0)) :
  Calls Tryz.prog 100 #[.slice a0 n cap] w fun e w' => ∃ v u, e = .returned v /\ LE z w' (fun k => w.heap.size <= k /\ k < w'.heap.size) v n u L H /\ Below w.heap.size w w' := by
 have hn' : (n : Int) <= 1048576 := by omega
 obtain ⟨cs, hcs, hmk⟩ := run_make_kind kndEE n hn
 have HCS : Hid (cs.size = n) := hcs
 have HR : Hid (RowS w a0 n fun i => .slice (A i) (L i) (C i)) := hr
 have HI : Hid (∀ i, i < n -> (∃ b off, A i = some ⟨b, off, none⟩ /\ Src w (A i) (fE (H i) (L i))) \/ (z = false /\ A i = none /\ L i = 0 /\ C i = 0)) := hI
 have HL : Hid (∀ i, i < n -> L i <= 1048576) := hL
 clear hr hI hL hcs
 go_enter Tryz.func100, Tryz.ntmps100
 go_wp2_with fail
 clear hmk
 go_loopw [3, 11] (fun v i wr => ∃ k : Nat, k <= n /\ i = .int .i64 k /\ Hid ((∃ u, LE z wr (fun b => w.heap.size <= b /\ b < wr.heap.size) v k u L H) /\ Below w.heap.size w wr)) (fun _ i _ => n - (intOf i).toNat)
 case atStart => exact ⟨0, Nat.zero_le _, rfl, ⟨fun _ => .slice none 0 0, LL.made _ _ _ w _ n hn HCS.out _ (by simp) _ _ _⟩, zQ _ _⟩
 case round =>
  obtain ⟨k, hk, rfl, HZ⟩ := hrel
  by_cases hlt : k < n
  ·have hlt' : (k : Int) < (n : Int) := by omega
   obtain ⟨b, off, rfl, ck⟩ := (HR.out.below HZ.out.2).at hlt
   have hbl : b < wr.heap.size := zJ wr _ ck
   rcases HI.out k hlt with ⟨b2, o2, ea, hsr⟩ | ⟨hz, ea, eL, eC⟩
   ·rw [ea] at hsr ck
    have HS : Hid (Src wr (some ⟨b2, o2, none⟩) (fE (H k) (L k))) := hsr.below HZ.out.2
    have HLk : Hid (L k <= 1048576) := HL.out k hlt
    have hk2 : Hid (k <= 2000000) := by show k <= 2000000; omega
    obtain ⟨⟨u, oz⟩, bz⟩ := HZ.out
    have OZ : Hid (LE z wr (fun b => w.heap.size <= b /\ b < wr.heap.size) u3 k u L H) := oz
    have BZ : Hid (Below w.heap.size w wr) := bz
    clear oz bz HZ hsr ea
    go_wp2_with fail
    refine (cloneEvent_own b2 o2 (L k) (C k) (H k) wr HLk.out HS.out).mono ?_
    rintro e w4 ⟨a4, c4, rfl, o4, n4, b4⟩
    have F4 : Hid (w4.ownsRow wr.heap.size 71 3 (.slice a4 (L k) c4) (L k) (fE (H k) (L k)) /\ Below wr.heap.size wr w4 /\ Value.slice a4 (L k) c4 ≠ .slice none 0 0) := ⟨o4, b4, n4⟩
    clear o4 b4 n4 ck hbl
    go_wp2_with (at_builtin; refine step_append_val kndEE w4 rfl rfl _ _ rfl 0 u3 k _ rfl (OZ.out.below F4.out.2.1).row #[.slice a4 (L k) c4] rfl rfl (by intro u hu; simp at hu; subst hu; rfl) hk2.out (Nat.zero_le _) ?_; intro v5 w5 o5 g5 q5 n5; have F5 : Hid (LE z w5 (fun b => w.heap.size <= b /\ b < w5.heap.size) v5 (k + 1) (fun j => if j = k then .slice a4 (L k) c4 else u j) L H /\ Below w.heap.size w w5) := ⟨OZ.out.push F4.out.2.1 F4.out.1 (fun _ => F4.out.2.2) o5 g5 q5 (fun j hj _ => ⟨hj.1, zL hj.2 (zP F4.out.2.1.size g5.size)⟩) (fun j hj hj' => ⟨zP BZ.out.size hj, hj'⟩), Below.grown (BZ.out.trans (F4.out.2.1.mono BZ.out.size)) g5 (zP BZ.out.size F4.out.2.1.size) (fun j hj => (OZ.out.rb j hj).1)⟩; clear o5 g5 q5 n5)
    go_roundw
    case rel => exact ⟨k + 1, by omega, by go_num, ⟨_, F5.out.1⟩, F5.out.2⟩
    case measure => simp [intOf]; omega
   ·rw [ea, eL, eC] at ck
    have HNz : Hid (¬ Nz z 71) := fun h => by
     rcases h with h | h
     ·rw [hz] at h
      cases h
     ·exact absurd h (by decide)
    have hk2 : Hid (k <= 2000000) := by show k <= 2000000; omega
    obtain ⟨⟨u, oz⟩, bz⟩ := HZ.out
    have OZ : Hid (LE z wr (fun b => w.heap.size <= b /\ b < wr.heap.size) u3 k u L H) := oz
    have BZ : Hid (Below w.heap.size w wr) := bz
    have HE : Hid (L k = 0) := eL
    clear oz bz HZ ea eL eC hz
    go_wp2_with fail
    refine (cloneEvent_none wr).mono ?_
    rintro e w4 ⟨rfl, b4⟩
    have F4 : Hid (w4.ownsRow wr.heap.size 71 3 (.slice none 0 0) (L k) (fE (H k) (L k)) /\ Below wr.heap.size wr w4) := ⟨by rw [HE.out]; exact World.ownsRow_nil _ _ _ _, b4⟩
    clear b4 ck hbl
    go_wp2_with (at_builtin; refine step_append_val kndEE w4 rfl rfl _ _ rfl 0 u3 k _ rfl (OZ.out.below F4.out.2).row #[.slice none 0 0] rfl rfl (by intro u hu; simp at hu; subst hu; rfl) hk2.out (Nat.zero_le _) ?_; intro v5 w5 o5 g5 q5 n5; have F5 : Hid (LE z w5 (fun b => w.heap.size <= b /\ b < w5.heap.size) v5 (k + 1) (fun j => if j = k then .slice none 0 0 else u j) L H /\ Below w.heap.size w w5) := ⟨OZ.out.push F4.out.2 F4.out.1 (fun h => absurd h HNz.out) o5 g5 q5 (fun j hj _ => ⟨hj.1, zL hj.2 (zP F4.out.2.size g5.size)⟩) (fun j hj hj' => ⟨zP BZ.out.size hj, hj'⟩), Below.grown (BZ.out.trans (F4.out.2.mono BZ.out.size)) g5 (zP BZ.out.size F4.out.2.size) (fun j hj => (OZ.out.rb j hj).1)⟩; clear o5 g5 q5 n5)
    go_roundw
    case rel => exact ⟨k + 1, by omega, by go_num, ⟨_, F5.out.1⟩, F5.out.2⟩
    case measure => simp [intOf]; omega
  ·have hkn : k = n := by omega
   subst hkn
   go_wp2
   go_ret
   obtain ⟨⟨u, oz⟩, bz⟩ := HZ.out
   exact ⟨_, u, rfl, oz, bz⟩
open Go.RowKit Go.Extern.Stop Go.Stop Go.Extern
theorem elemVT (a p : Addr) (W : World) (ha : W.cell? a = some (.pointer (some p))) :
  (ReflectliteValue.method (ReflectliteValue.valueError "reflectlite.Value.Elem" 0) ReflectliteValue.elem #[.agg #[.pointer (some ⟨1, 178, none⟩), .pointer (some a), .int .u64 150]]).run Tryz.prog W
   = .ok (.agg #[.pointer (some ⟨1, 176, none⟩), .pointer (some p), .int .u64 409]) W := by
 rw [rlm]
 simp only [Sem.run_bind, partsT, Result.andThen]
 simp [ReflectliteValue.elem, loadVar, isAgg, underlying, Tryz.underlying178, ha, Result.andThen, elemOfT, mkE]
theorem rls (v x : Value) : ReflectliteValue.set #[v, x] = (do
  let (some (dst, a, fl), some (src, b, _)) := (<- ReflectliteValue.parts v, <- ReflectliteValue.parts x)
   | unsupported (.noEntry "extern/(internal/reflectlite.Value).Set.zeroValue")
  if fl / ReflectliteValue.flagAddr % 2 == 0 then unsupported (.noEntry "extern/(internal/reflectlite.Value).Set.unaddressable")
  let val <- loadVar src b
  if <- Rtype.directlyAssignable dst src then storeVar dst a val
  else if <- Rtype.implements dst src then
   if (<- Rtype.kind src) == 20 then
    match val with
    | .nilIface => unsupported (.noEntry "extern/reflectlite: a nil value of one interface type handed on as a value of another")
    | _ => storeVar dst a val
   else storeVar dst a (.iface src val)
  else panicString ("reflectlite.Set: value of type " ++ (<- Rtype.spelt src) ++ " is not assignable to type " ++ (<- Rtype.spelt dst))
  pure (.tuple #[])) := rfl
theorem partsEa (a : Addr) (w : World) : (ReflectliteValue.parts (.agg #[.pointer (some ⟨1, 176, none⟩), .pointer (some a), .int .u64 409])).run Tryz.prog w = .ok (some (176, a, 409)) w := by kernel_rfl
theorem partsE (a : Addr) (w : World) : (ReflectliteValue.parts (.agg #[.pointer (some ⟨1, 176, none⟩), .pointer (some a), .int .u64 153])).run Tryz.prog w = .ok (some (176, a, 153)) w := by kernel_rfl
theorem directE (w : World) : (Rtype.directlyAssignable 176 176).run Tryz.prog w = .ok true w := by kernel_rfl
theorem setE (ta b : Addr) (x : Int) (old : Value) (W : World) (hb : W.cell? b = some (.int .i64 x)) (ht : W.cell? ta = some old) (hf : W.frozen? ta = false) :
  (ReflectliteValue.set #[.agg #[.pointer (some ⟨1, 176, none⟩), .pointer (some ta), .int .u64 409], .agg #[.pointer (some ⟨1, 176, none⟩), .pointer (some b), .int .u64 153]]).run Tryz.prog W
   = .ok (.tuple #[]) (W.setCell ta (.int .i64 x)) := by
 rw [rls]
 simp only [Sem.run_bind, partsEa, partsE, Result.andThen]
 simp [ReflectliteValue.flagAddr, loadVar, loadCells, loadCellsFrom, hb, Result.andThen, directE, storeVar, Value.cells, storeCells, Addr.add]
 rw [run_store Tryz.prog W ta _ _ (by rfl)]
 simp [ht, hf]
theorem OwnSys.base {z : Bool} {w : World} {B B' : Nat} {y : Sy} {v : Value} (o : OwnSys z w B y v) (h : B' <= B) : OwnSys z w B' y v := by
 obtain ⟨c, vp, vs, vw, vh, up, us, uw, uh, e, o⟩ := o
 exact ⟨c, vp, vs, vw, vh, up, us, uw, uh, e, o.p.mono fun _ q _ => ⟨zP h q.1, q.2⟩, o.s.mono fun _ q _ => ⟨zP h q.1, q.2⟩, o.t.mono fun _ q _ => ⟨zP h q.1, q.2⟩, o.h.mono fun _ q _ => ⟨zP h q.1, q.2⟩⟩
theorem OwnSys.setBelow {z : Bool} {w : World} {B : Nat} {y : Sy} {v : Value} (o : OwnSys z w B y v) {N : Nat} (h : N < B) (j : Nat) (u : Value) : OwnSys z (w.setCell ⟨N, j, none⟩ u) B y v := by
 obtain ⟨c, vp, vs, vw, vh, up, us, uw, uh, e, o⟩ := o
 have hk : ∀ i k, Cl B c i k -> k < w.heap.size -> (w.setCell ⟨N, j, none⟩ u).heap[k]? = w.heap[k]? := fun i k q _ => zO _ _ _ _ fun e => by
  have e : k = N := e
  have := q.1
  omega
 exact ⟨c, vp, vs, vw, vh, up, us, uw, uh, e, o.p.keep (hk 1), o.s.keep (hk 2), o.t.keep (hk 3), o.h.keep (hk 4)⟩
theorem OwnSys.zero {z : Bool} (w : World) (B : Nat) (y : Sy) : OwnSys z w B { y with pn := 0, sn := 0, wn := 0, hn := 0 } (sysV none 0 0 none 0 0 none 0 0 none 0 0) :=
 ⟨fun _ => 0, _, _, _, _, fun _ => .slice none 0 0, fun _ => .slice none 0 0, fun _ => .slice none 0 0, fun _ => .slice none 0 0, rfl, LL.nil _ _ _ _ _ _ _ _, LS.nil _ _ _ _, LL.nil _ _ _ _ _ _ _ _, LL.nil _ _ _ _ _ _ _ _⟩
theorem OwnSys.form {z : Bool} {w : World} {B : Nat} {y : Sy} {v : Value} (o : OwnSys z w B y v) : ∃ pa pc sa sc wa wc ha hc, v = sysV pa y.pn pc sa y.sn sc wa y.wn wc ha y.hn hc := by
 obtain ⟨c, vp, vs, vw, vh, up, us, uw, uh, rfl, o⟩ := o
 obtain ⟨pa, pc, rfl⟩ := zU o.p.row
 obtain ⟨sa, sc, rfl⟩ := zU o.s.row
 obtain ⟨wa, wc, rfl⟩ := zU o.t.row
 obtain ⟨ha, hc, rfl⟩ := zU o.h.row
 exact ⟨pa, pc, sa, sc, wa, wc, ha, hc, rfl⟩
variable {z : Bool}
theorem growItem_own (n : Nat) (w : World) (h0 : 0 < n) (hn : n <= 2000000) :
  Calls Tryz.prog 236 #[.slice none 0 0, .int .i64 (n : Int)] w fun e w' => ∃ c, e = .returned (.slice (some ⟨w.heap.size, 0, none⟩) 0 c) /\ w'.ownsRow w.heap.size 126 2 (.slice (some ⟨w.heap.size, 0, none⟩) 0 c) 0 [] /\ Below w.heap.size w w' := by
 obtain ⟨i, z, hi, hz, hs, hb, hzs⟩ := kndT.inf
 have hby : n * i.bytes <= 140737488355328 := by
  rw [hb]
  omega
 have hrz : ∀ ty, (Builtin.append_ #[124, 3] ty #[.slice none 0 0, .int .i64 (n : Int)]).run Tryz.prog w = .ok (.slice (some ⟨w.heap.size, 0, none⟩) n (grownCap w n 0 126)) (w.drew.alloc (.cells (Builtin.zeroCells z.cells n ++ Builtin.zeroCells z.cells (grownCap w n 0 126 - n)) 126)) := fun ty => by
  have h := Lib.run_append_grow_zeros w 124 3 ty 126 i z .i64 .i64 kndT.und Tryz.underlying3 hi hz none 0 0 [] (run_firstCells_none w.drew i.size 0 0 0) n h0 (by omega) (by omega) (by omega) (by omega) (by rw [Nat.zero_add]; exact growslice_fits (by omega) hby)
  simpa using h
 have hG : n <= grownCap w n 0 126 := grownCap_ge w _ _ _
 have hGm : grownCap w n 0 126 <= maxLen := grownCap_le_maxLen w _ _ _ (by unfold maxLen; omega)
 have OW : Hid ((w.drew.alloc (.cells (Builtin.zeroCells z.cells n ++ Builtin.zeroCells z.cells (grownCap w n 0 126 - n)) 126)).ownsRow w.heap.size 126 2 (.slice (some ⟨w.heap.size, 0, none⟩) 0 (grownCap w n 0 126)) 0 []) := World.ownsRow_made (base := w.heap.size) (e := 126) (size := 2) w.drew _ _ (Nat.le_refl _) hGm (by rw [Array.size_append, size_zeroCells, size_zeroCells, hzs]; omega)
 have BW : Hid (Below w.heap.size w (w.drew.alloc (.cells (Builtin.zeroCells z.cells n ++ Builtin.zeroCells z.cells (grownCap w n 0 126 - n)) 126))) := (Below.refl w.heap.size w).drew.trans (zQ w.drew _)
 generalize grownCap w n 0 126 = G at *
 generalize Builtin.zeroCells z.cells n ++ Builtin.zeroCells z.cells (G - n) = cs at *
 have hG' : (n : Int) <= (G : Int) := by omega
 have hG0 : (0 : Int) <= (G : Int) := by omega
 have hn0 : ¬ ((n : Int) < 0) := by omega
 have hn1 : (0 : Int) < (n : Int) := by omega
 clear hi hz hs hb hzs hby hGm hG
 go_enter Tryz.func236, Tryz.ntmps236
 go_wp2_with (at_builtin; refine Lib.wpList_append_run _ rfl _ _ _ _ rfl _ _ rfl rfl _ _ (hrz _) ?_)
 all_goals
  go_ret
  exact ⟨_, rfl, OW.out, BW.out⟩
theorem concatItem_own (b n1 c1 n2 c2 : Nat) (a1 a2 : Option Addr) (s1 s2 : List Value) (w : World) (h1 : n1 <= 1000000) (h2 : n2 <= 1000000) (h0 : 0 < n1 + n2) (k1 : w.cell? ⟨b, 0, none⟩ = some (.slice a1 n1 c1)) (k2 : w.cell? ⟨b, 1, none⟩ = some (.slice a2 n2 c2)) (l1 : s1.length = n1 * 2) (l2 : s2.length = n2 * 2) (r1 : Src w a1 s1) (r2 : Src w a2 s2) (o1 : ∀ u ∈ s1, u.oneCell' = true) (o2 : ∀ u ∈ s2, u.oneCell' = true) :
  Calls Tryz.prog 190 #[.slice (some ⟨b, 0, none⟩) 2 2] w fun e w' => ∃ v, e = .returned v /\ w'.ownsRow w.heap.size 126 2 v (n1 + n2) (s1 ++ s2) /\ v ≠ .slice none 0 0 /\ Below w.heap.size w w' := by
 have H1 : (n1 : Int) <= 1000000 := by omega
 have H2 : (n2 : Int) <= 1000000 := by omega
 have KC : Hid (w.cell? ⟨b, 0, none⟩ = some (.slice a1 n1 c1) /\ w.cell? ⟨b, 1, none⟩ = some (.slice a2 n2 c2) /\ b < w.heap.size) := ⟨k1, k2, zJ w _ k1⟩
 have RC : Hid ((s1.length = n1 * 2 /\ Src w a1 s1 /\ ∀ u ∈ s1, u.oneCell' = true) /\ (s2.length = n2 * 2 /\ Src w a2 s2 /\ ∀ u ∈ s2, u.oneCell' = true)) := ⟨⟨l1, r1, o1⟩, ⟨l2, r2, o2⟩⟩
 clear l1 l2 r1 r2 o1 o2 k1 k2
 go_enter Tryz.func190, Tryz.ntmps190
 go_wp2_with fail
 go_loopw [3, 11] (fun q i wr => ∃ j : Nat, j <= 2 /\ i = .int .i64 j /\ q = .int .i64 ((if j = 0 then 0 else if j = 1 then n1 else n1 + n2 : Nat) : Int) /\ wr = w) (fun _ i _ => 2 - (intOf i).toNat)
 case atStart => exact ⟨0, Nat.zero_le _, rfl, rfl, rfl⟩
 case round =>
  obtain ⟨j, hj, rfl, rfl, hwr⟩ := hrel
  obtain rfl := hwr.symm
  obtain ⟨k1, k2, -⟩ := KC.out
  by_cases hj0 : j = 0
  ·subst hj0
   simp only [if_true]
   go_wp2
   go_roundw
   case rel => exact ⟨1, by omega, by go_num, by simp, by first | rfl | trivial⟩
   case measure => simp [intOf]
  ·by_cases hj1 : j = 1
   ·subst hj1
    simp only [if_true, if_neg (show ¬ (1 : Nat) = 0 by decide)]
    have hs : ¬ ((n1 : Int) + (n2 : Int) < 0) := by omega
    go_wp2
    go_roundw
    case rel => exact ⟨2, by omega, by go_num, by simp, by first | rfl | trivial⟩
    case measure => simp [intOf]
   ·obtain rfl : j = 2 := by omega
    simp only [if_neg (show ¬ (2 : Nat) = 0 by decide), if_neg (show ¬ (2 : Nat) = 1 by decide)]
    clear k1 k2
    go_wp2_with fail
    refine (growItem_own (n1 + n2) w h0 (by omega)).mono ?_
    rintro e w1 ⟨cg, rfl, og, bg⟩
    have OG : Hid (w1.ownsRow w.heap.size 126 2 (.slice (some ⟨w.heap.size, 0, none⟩) 0 cg) 0 [] /\ Below w.heap.size w w1) := ⟨og, bg⟩
    clear og bg
    go_wp2_with fail
    go_loopw [6, 27] (fun v i wx => ∃ j : Nat, j <= 2 /\ i = .int .i64 j /\ Hid (wx.ownsRow w.heap.size 126 2 v (if j = 0 then 0 else if j = 1 then n1 else n1 + n2) (if j = 0 then [] else if j = 1 then s1 else s1 ++ s2) /\ v ≠ .slice none 0 0 /\ Below w.heap.size w wx)) (fun _ i _ => 2 - (intOf i).toNat)
    case atStart => exact ⟨0, Nat.zero_le _, rfl, OG.out.1, by simp, OG.out.2⟩
    case round =>
     clear OG
     obtain ⟨j, hj, rfl, HZ⟩ := hrel
     obtain ⟨k1, k2, kb⟩ := KC.out
     have HB : Hid (Below w.heap.size w wr) := HZ.out.2.2
     have hne : Hid (u6 ≠ .slice none 0 0) := HZ.out.2.1
     by_cases hj0 : j = 0
     ·subst hj0
      have m1 := (HB.out.cell (p := ⟨b, 0, none⟩) kb).trans k1
      have OV : Hid (wr.ownsRow w.heap.size 126 2 u6 0 []) := HZ.out.1
      clear k1 k2 kb HZ
      go_wp2_with (at_builtin; refine step_append_src kndT wr rfl _ _ rfl w.heap.size u6 0 [] rfl OV.out a1 n1 c1 s1 rfl RC.out.1.1 (RC.out.1.2.1.below HB.out) RC.out.1.2.2 (by omega) HB.out.size ?_; intro v5 w5 o5 g5 q5 n5; have F5 : Hid (w5.ownsRow w.heap.size 126 2 v5 n1 s1 /\ v5 ≠ .slice none 0 0 /\ Below w.heap.size w w5) := ⟨by rw [Nat.zero_add, List.nil_append] at o5; exact o5, n5 (.inl hne.out), Below.grown HB.out g5 HB.out.size (fun j hj => (OV.out.lt j hj).1)⟩; clear o5 g5 q5 n5)
      go_roundw
      case rel => exact ⟨1, by omega, by go_num, F5.out⟩
      case measure => simp [intOf]
     ·by_cases hj1 : j = 1
      ·subst hj1
       have m2 := (HB.out.cell (p := ⟨b, 1, none⟩) kb).trans k2
       have OV : Hid (wr.ownsRow w.heap.size 126 2 u6 n1 s1) := HZ.out.1
       clear k1 k2 kb HZ
       go_wp2_with (at_builtin; refine step_append_src kndT wr rfl _ _ rfl w.heap.size u6 n1 s1 rfl OV.out a2 n2 c2 s2 rfl RC.out.2.1 (RC.out.2.2.1.below HB.out) RC.out.2.2.2 (by omega) HB.out.size ?_; intro v5 w5 o5 g5 q5 n5; have F5 : Hid (w5.ownsRow w.heap.size 126 2 v5 (n1 + n2) (s1 ++ s2) /\ v5 ≠ .slice none 0 0 /\ Below w.heap.size w w5) := ⟨o5, n5 (.inl hne.out), Below.grown HB.out g5 HB.out.size (fun j hj => (OV.out.lt j hj).1)⟩; clear o5 g5 q5 n5)
       go_roundw
       case rel => exact ⟨2, by omega, by go_num, F5.out⟩
       case measure => simp [intOf]
      ·obtain rfl : j = 2 := by omega
       have F5 : Hid (wr.ownsRow w.heap.size 126 2 u6 (n1 + n2) (s1 ++ s2) /\ u6 ≠ .slice none 0 0 /\ Below w.heap.size w wr) := HZ.out
       clear HZ k1 k2
       go_wp2
       go_ret
       exact ⟨_, rfl, F5.out⟩
theorem withItem_own (a : Option Addr) (n c : Nat) (lim : Int) (H : Nat -> I2) (x : I2) (w : World) (hn : n <= 1000) (hI : Src w a (fT H n)) :
  Calls Tryz.prog 109 #[.agg #[.slice a n c, .int .i64 lim], .agg #[.bool x.m, .int .i64 x.v]] w fun e w' => ∃ v, e = .returned v /\ w'.ownsRow w.heap.size 126 2 v (n + 1) (fT (fun i => if i = n then x else H i) (n + 1)) /\ v ≠ .slice none 0 0 /\ Below w.heap.size w w' := by
 have HI : Hid (Src w a (fT H n)) := hI
 have HF : Hid (fT (fun i => if i = n then x else H i) (n + 1) = fT H n ++ cT x) := by
  show flat (fun i => cT (if i = n then x else H i)) n ++ cT (if n = n then x else H n) = flat (fun i => cT (H i)) n ++ cT x
  rw [if_pos rfl]
  congr 1
  exact flat_congr fun i hi => by rw [if_neg (by omega)]
 clear hI
 go_enter Tryz.func109, Tryz.ntmps109
 go_wp2_with fail
 have B3 : Hid (Below w.heap.size w ((((w.alloc (.cells #[.slice a n c, .int .i64 lim] 141)).alloc (.cells #[.bool x.m, .int .i64 x.v] 126)).alloc (.cells #[.bool x.m, .int .i64 x.v] 126)).alloc (.cells #[.slice a n c, .slice (some ⟨w.heap.size + 2, 0, none⟩) 1 1] 124))) := by
  show Below w.heap.size w ((((w.alloc (.cells #[.slice a n c, .int .i64 lim] 141)).alloc (.cells #[.bool x.m, .int .i64 x.v] 126)).alloc (.cells #[.bool x.m, .int .i64 x.v] 126)).alloc (.cells #[.slice a n c, .slice (some ⟨w.heap.size + 2, 0, none⟩) 1 1] 124))
  go_grown
 have k1 : ((((w.alloc (.cells #[.slice a n c, .int .i64 lim] 141)).alloc (.cells #[.bool x.m, .int .i64 x.v] 126)).alloc (.cells #[.bool x.m, .int .i64 x.v] 126)).alloc (.cells #[.slice a n c, .slice (some ⟨w.heap.size + 2, 0, none⟩) 1 1] 124)).cell? ⟨w.heap.size + 3, 0, none⟩ = some (.slice a n c) := zW _ _ _ 0 (by simp)
 have k2 : ((((w.alloc (.cells #[.slice a n c, .int .i64 lim] 141)).alloc (.cells #[.bool x.m, .int .i64 x.v] 126)).alloc (.cells #[.bool x.m, .int .i64 x.v] 126)).alloc (.cells #[.slice a n c, .slice (some ⟨w.heap.size + 2, 0, none⟩) 1 1] 124)).cell? ⟨w.heap.size + 3, 1, none⟩ = some (.slice (some ⟨w.heap.size + 2, 0, none⟩) 1 1) := zW _ _ _ 1 (by simp)
 have r2 : Src ((((w.alloc (.cells #[.slice a n c, .int .i64 lim] 141)).alloc (.cells #[.bool x.m, .int .i64 x.v] 126)).alloc (.cells #[.bool x.m, .int .i64 x.v] 126)).alloc (.cells #[.slice a n c, .slice (some ⟨w.heap.size + 2, 0, none⟩) 1 1] 124)) (some ⟨w.heap.size + 2, 0, none⟩) (cT x) :=   .inr ⟨w.heap.size + 2, 0, rfl, (by simp), fun j u hj => by
  have ba := zQ (((w.alloc (.cells #[.slice a n c, .int .i64 lim] 141)).alloc (.cells #[.bool x.m, .int .i64 x.v] 126)).alloc (.cells #[.bool x.m, .int .i64 x.v] 126)) (.cells #[.slice a n c, .slice (some ⟨w.heap.size + 2, 0, none⟩) 1 1] 124)
  rw [Nat.zero_add, (bcell ba).1 _ _ (by simp), zW _ _ _ j (by simp)]
  simpa [cT] using hj⟩
 refine (concatItem_own (w.heap.size + 3) n c 1 1 a (some ⟨w.heap.size + 2, 0, none⟩) (fT H n) (cT x) ((((w.alloc (.cells #[.slice a n c, .int .i64 lim] 141)).alloc (.cells #[.bool x.m, .int .i64 x.v] 126)).alloc (.cells #[.bool x.m, .int .i64 x.v] 126)).alloc (.cells #[.slice a n c, .slice (some ⟨w.heap.size + 2, 0, none⟩) 1 1] 124)) (by omega) (by omega) (by omega) k1 k2 (fT_len _ _) rfl (HI.out.below B3.out) r2 (fT_one _ _) (by intro u hu; simp [cT] at hu; rcases hu with rfl | rfl <;> rfl)).mono ?_
 rintro e w5 ⟨v5, rfl, o5, n5, b5⟩
 have F5 : Hid (w5.ownsRow w.heap.size 126 2 v5 (n + 1) (fT H n ++ cT x) /\ v5 ≠ .slice none 0 0 /\ Below w.heap.size w w5) := ⟨o5.mono (by simp; omega), n5, B3.out.trans (b5.mono B3.out.size)⟩
 clear o5 n5 b5 k1 k2 r2 B3
 go_wp2
 go_ret
 rw [HF.out]
 exact ⟨_, rfl, F5.out⟩
theorem growEvent_own (n : Nat) (w : World) (h0 : 0 < n) (hn : n <= 2000000) :
  Calls Tryz.prog 235 #[.slice none 0 0, .int .i64 (n : Int)] w fun e w' => ∃ c, e = .returned (.slice (some ⟨w.heap.size, 0, none⟩) 0 c) /\ w'.ownsRow w.heap.size 71 3 (.slice (some ⟨w.heap.size, 0, none⟩) 0 c) 0 [] /\ Below w.heap.size w w' := by
 obtain ⟨i, z, hi, hz, hs, hb, hzs⟩ := kndE.inf
 have hby : n * i.bytes <= 140737488355328 := by
  rw [hb]
  omega
 have hrz : ∀ ty, (Builtin.append_ #[35, 3] ty #[.slice none 0 0, .int .i64 (n : Int)]).run Tryz.prog w = .ok (.slice (some ⟨w.heap.size, 0, none⟩) n (grownCap w n 0 71)) (w.drew.alloc (.cells (Builtin.zeroCells z.cells n ++ Builtin.zeroCells z.cells (grownCap w n 0 71 - n)) 71)) := fun ty => by
  have h := Lib.run_append_grow_zeros w 35 3 ty 71 i z .i64 .i64 kndE.und Tryz.underlying3 hi hz none 0 0 [] (run_firstCells_none w.drew i.size 0 0 0) n h0 (by omega) (by omega) (by omega) (by omega) (by rw [Nat.zero_add]; exact growslice_fits (by omega) hby)
  simpa using h
 have hG : n <= grownCap w n 0 71 := grownCap_ge w _ _ _
 have hGm : grownCap w n 0 71 <= maxLen := grownCap_le_maxLen w _ _ _ (by unfold maxLen; omega)
 have OW : Hid ((w.drew.alloc (.cells (Builtin.zeroCells z.cells n ++ Builtin.zeroCells z.cells (grownCap w n 0 71 - n)) 71)).ownsRow w.heap.size 71 3 (.slice (some ⟨w.heap.size, 0, none⟩) 0 (grownCap w n 0 71)) 0 []) := World.ownsRow_made (base := w.heap.size) (e := 71) (size := 3) w.drew _ _ (Nat.le_refl _) hGm (by rw [Array.size_append, size_zeroCells, size_zeroCells, hzs]; omega)
 have BW : Hid (Below w.heap.size w (w.drew.alloc (.cells (Builtin.zeroCells z.cells n ++ Builtin.zeroCells z.cells (grownCap w n 0 71 - n)) 71))) := (Below.refl w.heap.size w).drew.trans (zQ w.drew _)
 generalize grownCap w n 0 71 = G at *
 generalize Builtin.zeroCells z.cells n ++ Builtin.zeroCells z.cells (G - n) = cs at *
 have hG' : (n : Int) <= (G : Int) := by omega
 have hG0 : (0 : Int) <= (G : Int) := by omega
 have hn0 : ¬ ((n : Int) < 0) := by omega
 have hn1 : (0 : Int) < (n : Int) := by omega
 clear hi hz hs hb hzs hby hGm hG
 go_enter Tryz.func235, Tryz.ntmps235
 go_wp2_with (at_builtin; refine Lib.wpList_append_run _ rfl _ _ _ _ rfl _ _ rfl rfl _ _ (hrz _) ?_)
 all_goals
  go_ret
  exact ⟨_, rfl, OW.out, BW.out⟩
theorem concatEvent_own (b n1 c1 n2 c2 : Nat) (a1 a2 : Option Addr) (s1 s2 : List Value) (w : World) (h1 : n1 <= 1000000) (h2 : n2 <= 1000000) (h0 : 0 < n1 + n2) (k1 : w.cell? ⟨b, 0, none⟩ = some (.slice a1 n1 c1)) (k2 : w.cell? ⟨b, 1, none⟩ = some (.slice a2 n2 c2)) (l1 : s1.length = n1 * 3) (l2 : s2.length = n2 * 3) (r1 : Src w a1 s1) (r2 : Src w a2 s2) (o1 : ∀ u ∈ s1, u.oneCell' = true) (o2 : ∀ u ∈ s2, u.oneCell' = true) :
  Calls Tryz.prog 189 #[.slice (some ⟨b, 0, none⟩) 2 2] w fun e w' => ∃ v, e = .returned v /\ w'.ownsRow w.heap.size 71 3 v (n1 + n2) (s1 ++ s2) /\ v ≠ .slice none 0 0 /\ Below w.heap.size w w' := by
 have H1 : (n1 : Int) <= 1000000 := by omega
 have H2 : (n2 : Int) <= 1000000 := by omega
 have KC : Hid (w.cell? ⟨b, 0, none⟩ = some (.slice a1 n1 c1) /\ w.cell? ⟨b, 1, none⟩ = some (.slice a2 n2 c2) /\ b < w.heap.size) := ⟨k1, k2, zJ w _ k1⟩
 have RC : Hid ((s1.length = n1 * 3 /\ Src w a1 s1 /\ ∀ u ∈ s1, u.oneCell' = true) /\ (s2.length = n2 * 3 /\ Src w a2 s2 /\ ∀ u ∈ s2, u.oneCell' = true)) := ⟨⟨l1, r1, o1⟩, ⟨l2, r2, o2⟩⟩
 clear l1 l2 r1 r2 o1 o2 k1 k2
 go_enter Tryz.func189, Tryz.ntmps189
 go_wp2_with fail
 go_loopw [3, 11] (fun q i wr => ∃ j : Nat, j <= 2 /\ i = .int .i64 j /\ q = .int .i64 ((if j = 0 then 0 else if j = 1 then n1 else n1 + n2 : Nat) : Int) /\ wr = w) (fun _ i _ => 2 - (intOf i).toNat)
 case atStart => exact ⟨0, Nat.zero_le _, rfl, rfl, rfl⟩
 case round =>
  obtain ⟨j, hj, rfl, rfl, hwr⟩ := hrel
  obtain rfl := hwr.symm
  obtain ⟨k1, k2, -⟩ := KC.out
  by_cases hj0 : j = 0
  ·subst hj0
   simp only [if_true]
   go_wp2
   go_roundw
   case rel => exact ⟨1, by omega, by go_num, by simp, by first | rfl | trivial⟩
   case measure => simp [intOf]
  ·by_cases hj1 : j = 1
   ·subst hj1
    simp only [if_true, if_neg (show ¬ (1 : Nat) = 0 by decide)]
    have hs : ¬ ((n1 : Int) + (n2 : Int) < 0) := by omega
    go_wp2
    go_roundw
    case rel => exact ⟨2, by omega, by go_num, by simp, by first | rfl | trivial⟩
    case measure => simp [intOf]
   ·obtain rfl : j = 2 := by omega
    simp only [if_neg (show ¬ (2 : Nat) = 0 by decide), if_neg (show ¬ (2 : Nat) = 1 by decide)]
    clear k1 k2
    go_wp2_with fail
    refine (growEvent_own (n1 + n2) w h0 (by omega)).mono ?_
    rintro e w1 ⟨cg, rfl, og, bg⟩
    have OG : Hid (w1.ownsRow w.heap.size 71 3 (.slice (some ⟨w.heap.size, 0, none⟩) 0 cg) 0 [] /\ Below w.heap.size w w1) := ⟨og, bg⟩
    clear og bg
    go_wp2_with fail
    go_loopw [6, 27] (fun v i wx => ∃ j : Nat, j <= 2 /\ i = .int .i64 j /\ Hid (wx.ownsRow w.heap.size 71 3 v (if j = 0 then 0 else if j = 1 then n1 else n1 + n2) (if j = 0 then [] else if j = 1 then s1 else s1 ++ s2) /\ v ≠ .slice none 0 0 /\ Below w.heap.size w wx)) (fun _ i _ => 2 - (intOf i).toNat)
    case atStart => exact ⟨0, Nat.zero_le _, rfl, OG.out.1, by simp, OG.out.2⟩
    case round =>
     clear OG
     obtain ⟨j, hj, rfl, HZ⟩ := hrel
     obtain ⟨k1, k2, kb⟩ := KC.out
     have HB : Hid (Below w.heap.size w wr) := HZ.out.2.2
     have hne : Hid (u6 ≠ .slice none 0 0) := HZ.out.2.1
     by_cases hj0 : j = 0
     ·subst hj0
      have m1 := (HB.out.cell (p := ⟨b, 0, none⟩) kb).trans k1
      have OV : Hid (wr.ownsRow w.heap.size 71 3 u6 0 []) := HZ.out.1
      clear k1 k2 kb HZ
      go_wp2_with (at_builtin; refine step_append_src kndE wr rfl _ _ rfl w.heap.size u6 0 [] rfl OV.out a1 n1 c1 s1 rfl RC.out.1.1 (RC.out.1.2.1.below HB.out) RC.out.1.2.2 (by omega) HB.out.size ?_; intro v5 w5 o5 g5 q5 n5; have F5 : Hid (w5.ownsRow w.heap.size 71 3 v5 n1 s1 /\ v5 ≠ .slice none 0 0 /\ Below w.heap.size w w5) := ⟨by rw [Nat.zero_add, List.nil_append] at o5; exact o5, n5 (.inl hne.out), Below.grown HB.out g5 HB.out.size (fun j hj => (OV.out.lt j hj).1)⟩; clear o5 g5 q5 n5)
      go_roundw
      case rel => exact ⟨1, by omega, by go_num, F5.out⟩
      case measure => simp [intOf]
     ·by_cases hj1 : j = 1
      ·subst hj1
       have m2 := (HB.out.cell (p := ⟨b, 1, none⟩) kb).trans k2
       have OV : Hid (wr.ownsRow w.heap.size 71 3 u6 n1 s1) := HZ.out.1
       clear k1 k2 kb HZ
       go_wp2_with (at_builtin; refine step_append_src kndE wr rfl _ _ rfl w.heap.size u6 n1 s1 rfl OV.out a2 n2 c2 s2 rfl RC.out.2.1 (RC.out.2.2.1.below HB.out) RC.out.2.2.2 (by omega) HB.out.size ?_; intro v5 w5 o5 g5 q5 n5; have F5 : Hid (w5.ownsRow w.heap.size 71 3 v5 (n1 + n2) (s1 ++ s2) /\ v5 ≠ .slice none 0 0 /\ Below w.heap.size w w5) := ⟨o5, n5 (.inl hne.out), Below.grown HB.out g5 HB.out.size (fun j hj => (OV.out.lt j hj).1)⟩; clear o5 g5 q5 n5)
       go_roundw
       case rel => exact ⟨2, by omega, by go_num, F5.out⟩
       case measure => simp [intOf]
      ·obtain rfl : j = 2 := by omega
       have F5 : Hid (wr.ownsRow w.heap.size 71 3 u6 (n1 + n2) (s1 ++ s2) /\ u6 ≠ .slice none 0 0 /\ Below w.heap.size w wr) := HZ.out
       clear HZ k1 k2
       go_wp2
       go_ret
       exact ⟨_, rfl, F5.out⟩
theorem withEvent_own (a : Option Addr) (n c : Nat) (lim : Int) (H : Nat -> E3) (x : E3) (w : World) (hn : n <= 1000) (hI : Src w a (fE H n)) :
  Calls Tryz.prog 107 #[.agg #[.slice a n c, .int .i64 lim], .agg #[.int .i64 x.k, .int .i64 x.q, .int .i64 x.v]] w fun e w' => ∃ v, e = .returned v /\ w'.ownsRow w.heap.size 71 3 v (n + 1) (fE (fun i => if i = n then x else H i) (n + 1)) /\ v ≠ .slice none 0 0 /\ Below w.heap.size w w' := by
 have HI : Hid (Src w a (fE H n)) := hI
 have HF : Hid (fE (fun i => if i = n then x else H i) (n + 1) = fE H n ++ cE x) := by
  show flat (fun i => cE (if i = n then x else H i)) n ++ cE (if n = n then x else H n) = flat (fun i => cE (H i)) n ++ cE x
  rw [if_pos rfl]
  congr 1
  exact flat_congr fun i hi => by rw [if_neg (by omega)]
 clear hI
 go_enter Tryz.func107, Tryz.ntmps107
 go_wp2_with fail
 have B3 : Hid (Below w.heap.size w ((((w.alloc (.cells #[.slice a n c, .int .i64 lim] 137)).alloc (oQ1 x.k x.q x.v)).alloc (oQ1 x.k x.q x.v)).alloc (.cells #[.slice a n c, .slice (some ⟨w.heap.size + 2, 0, none⟩) 1 1] 35))) := by
  show Below w.heap.size w ((((w.alloc (.cells #[.slice a n c, .int .i64 lim] 137)).alloc (oQ1 x.k x.q x.v)).alloc (oQ1 x.k x.q x.v)).alloc (.cells #[.slice a n c, .slice (some ⟨w.heap.size + 2, 0, none⟩) 1 1] 35))
  go_grown
 have k1 : ((((w.alloc (.cells #[.slice a n c, .int .i64 lim] 137)).alloc (oQ1 x.k x.q x.v)).alloc (oQ1 x.k x.q x.v)).alloc (.cells #[.slice a n c, .slice (some ⟨w.heap.size + 2, 0, none⟩) 1 1] 35)).cell? ⟨w.heap.size + 3, 0, none⟩ = some (.slice a n c) := zW _ _ _ 0 (by simp)
 have k2 : ((((w.alloc (.cells #[.slice a n c, .int .i64 lim] 137)).alloc (oQ1 x.k x.q x.v)).alloc (oQ1 x.k x.q x.v)).alloc (.cells #[.slice a n c, .slice (some ⟨w.heap.size + 2, 0, none⟩) 1 1] 35)).cell? ⟨w.heap.size + 3, 1, none⟩ = some (.slice (some ⟨w.heap.size + 2, 0, none⟩) 1 1) := zW _ _ _ 1 (by simp)
 have r2 : Src ((((w.alloc (.cells #[.slice a n c, .int .i64 lim] 137)).alloc (oQ1 x.k x.q x.v)).alloc (oQ1 x.k x.q x.v)).alloc (.cells #[.slice a n c, .slice (some ⟨w.heap.size + 2, 0, none⟩) 1 1] 35)) (some ⟨w.heap.size + 2, 0, none⟩) (cE x) :=   .inr ⟨w.heap.size + 2, 0, rfl, (by simp), fun j u hj => by
  have ba := zQ (((w.alloc (.cells #[.slice a n c, .int .i64 lim] 137)).alloc (oQ1 x.k x.q x.v)).alloc (oQ1 x.k x.q x.v)) (.cells #[.slice a n c, .slice (some ⟨w.heap.size + 2, 0, none⟩) 1 1] 35)
  rw [Nat.zero_add, (bcell ba).1 _ _ (by simp), zW _ _ _ j (by simp)]
  simpa [cE] using hj⟩
 refine (concatEvent_own (w.heap.size + 3) n c 1 1 a (some ⟨w.heap.size + 2, 0, none⟩) (fE H n) (cE x) ((((w.alloc (.cells #[.slice a n c, .int .i64 lim] 137)).alloc (oQ1 x.k x.q x.v)).alloc (oQ1 x.k x.q x.v)).alloc (.cells #[.slice a n c, .slice (some ⟨w.heap.size + 2, 0, none⟩) 1 1] 35)) (by omega) (by omega) (by omega) k1 k2 (fE_len _ _) rfl (HI.out.below B3.out) r2 (fE_one _ _) (by intro u hu; simp [cE] at hu; rcases hu with rfl | rfl | rfl <;> rfl)).mono ?_
 rintro e w5 ⟨v5, rfl, o5, n5, b5⟩
 have F5 : Hid (w5.ownsRow w.heap.size 71 3 v5 (n + 1) (fE H n ++ cE x) /\ v5 ≠ .slice none 0 0 /\ Below w.heap.size w w5) := ⟨o5.mono (by simp; omega), n5, B3.out.trans (b5.mono B3.out.size)⟩
 clear o5 n5 b5 k1 k2 r2 B3
 go_wp2
 go_ret
 rw [HF.out]
 exact ⟨_, rfl, F5.out⟩
end Go.Proofs.YtcplnkhdclcgfaaGreatDoor
