/- A region that draws its order, whose last operations write what others of it read: what is read may be taken first, so long as all that writes it waits for that. -/
import Derived.Test.YthdaejgmfognbabGreatDoorWd0
import Derived.Test.YthdaejgmfognbabGreatDoorWd30
import Derived.Test.YthdaejgmfognbabGreatDoorWd15
import Derived.Test.YthdaejgmfognbabGreatDoorRows
import Derived.OrdersHeld
import Derived.Deep.RegionHeld3
namespace Go.Proofs.YthdaejgmfognbabGreatDoor
set_option maxRecDepth 100000
set_option maxHeartbeats 1000000
open Go.RowKit Go.Deep
theorem specValues_l (ea : Option Addr) (len cap : Nat) (eh : Nat -> E3) (kd pr : Int) (w : World) (hlen : len <= 1048576) (hc : EvL w ea len eh) :
  Calls Tryz.prog 93 #[.slice ea len cap, .int .i64 kd, .int .i64 pr] w fun e w' => ∃ v, e = .returned v /\ OwnI w' w.heap.size v (valL eh kd pr len) /\ Below w.heap.size w w' := by
 have hl' : (len : Int) <= 1048576 := by omega
 have HC : Hid (EvL w ea len eh) := hc
 clear hc
 go_enter Tryz.func93, Tryz.ntmps93
 go_wp2_with fail
 go_loopw [7, 8] (fun o i wr => ∃ k : Nat, k <= len /\ i = .int .i64 k /\ Hid (OwnI wr w.heap.size o (valL eh kd pr k)) /\ Below w.heap.size w wr) (fun _ i _ => len - (intOf i).toNat)
 case atStart => exact ⟨0, Nat.zero_le _, rfl, own_empty w, (Below.refl _ _).alloc (Nat.le_refl _) _⟩
 case round =>
  obtain ⟨k, hk, rfl, HO, hbw⟩ := hrel
  have hs := hbw.size
  by_cases hlt : k < len
  ·have hlt' : (k : Int) < (len : Int) := by omega
   have hvl := valL_le eh kd pr k
   obtain ⟨b, off, rfl, -, c0, c1, c2⟩ := (HC.out.below hbw).at hlt
   rcases zK ((eh k).k == kd) with t1 | t1
   ·rcases zK ((eh k).q == pr) with t2 | t2
    ·have HH : Hid (valL eh kd pr (k + 1) = valL eh kd pr k ++ [(eh k).v]) := valL_hit (by
      unfold hitB
      rw [t1, t2]
      rfl)
     go_wp2_with (at_builtin; refine append_one wr rfl _ _ rfl w.heap.size u7 (valL eh kd pr k) rfl HO.out (eh k).v rfl (by omega) hs ?_; intro v' w4 o4 b4; have H4 : Hid (OwnI w4 w.heap.size v' (valL eh kd pr (k + 1))) := o4.to HH.out; clear o4)
     go_roundw
     case rel => exact ⟨k + 1, by omega, by go_num, H4.out, hbw.trans b4⟩
     case measure => simp [intOf]; omega
    ·have HH : Hid (valL eh kd pr (k + 1) = valL eh kd pr k) := valL_not (by
      unfold hitB
      rw [t1, t2]
      rfl)
     go_wp2
     go_roundw
     case rel => exact ⟨k + 1, by omega, by go_num, HO.out.to HH.out, hbw⟩
     case measure => simp [intOf]; omega
   ·have HH : Hid (valL eh kd pr (k + 1) = valL eh kd pr k) := valL_not (by
     unfold hitB
     rw [t1]
     rfl)
    go_wp2
    go_roundw
    case rel => exact ⟨k + 1, by omega, by go_num, HO.out.to HH.out, hbw⟩
    case measure => simp [intOf]; omega
  ·have hkl : k = len := by omega
   have H4 : Hid (OwnI wr w.heap.size u7 (valL eh kd pr len)) := by
    have := HO.out
    rw [hkl] at this
    exact this
   clear HO hkl
   go_wp2
   go_ret
   exact ⟨_, rfl, H4.out, hbw⟩
theorem placesOf_l (ea : Option Addr) (len cap : Nat) (eh : Nat -> E3) (kd pr : Int) (w : World) (hlen : len <= 1048576) (hc : EvL w ea len eh) :
  Calls Tryz.prog 195 #[.slice ea len cap, .int .i64 kd, .int .i64 pr] w fun e w' => ∃ v, e = .returned v /\ OwnI w' w.heap.size v (plI eh kd pr len) /\ Below w.heap.size w w' := by
 have hl' : (len : Int) <= 1048576 := by omega
 have HC : Hid (EvL w ea len eh) := hc
 clear hc
 go_enter Tryz.func195, Tryz.ntmps195
 go_wp2_with fail
 go_loopw [7, 13] (fun o i wr => ∃ k : Nat, k <= len /\ i = .int .i64 k /\ Hid (OwnI wr w.heap.size o (plI eh kd pr k)) /\ Below w.heap.size w wr) (fun _ i _ => len - (intOf i).toNat)
 case atStart => exact ⟨0, Nat.zero_le _, rfl, own_empty w, (Below.refl _ _).alloc (Nat.le_refl _) _⟩
 case round =>
  obtain ⟨k, hk, rfl, HO, hbw⟩ := hrel
  have hs := hbw.size
  by_cases hlt : k < len
  ·have hlt' : (k : Int) < (len : Int) := by omega
   have hvl := plI_le eh kd pr k
   obtain ⟨b, off, rfl, -, c0, c1, c2⟩ := (HC.out.below hbw).at hlt
   rcases zK ((eh k).k == kd) with t1 | t1
   ·rcases zK ((eh k).q == pr) with t2 | t2
    ·have HH : Hid (plI eh kd pr (k + 1) = plI eh kd pr k ++ [(k : Int)]) := plI_hit (by
      unfold hitB
      rw [t1, t2]
      rfl)
     go_wp2_with (at_builtin; refine append_oneN _ (N := wr.heap.size + 1) (by simp) rfl _ _ rfl w.heap.size u7 (plI eh kd pr k) rfl (HO.out.below (by go_grown)) k rfl (by omega) (by simp; omega) ?_; intro v' w4 o4 b4; have H4 : Hid (OwnI w4 w.heap.size v' (plI eh kd pr (k + 1))) := o4.to HH.out; clear o4)
     go_roundw
     case rel => exact ⟨k + 1, by omega, by go_num, H4.out, Below.trans (by go_grown) b4⟩
     case measure => simp [intOf]; omega
    ·have HH : Hid (plI eh kd pr (k + 1) = plI eh kd pr k) := plI_not (by
      unfold hitB
      rw [t1, t2]
      rfl)
     go_wp2
     go_roundw
     case rel => exact ⟨k + 1, by omega, by go_num, (HO.out.below (by go_grown)).to HH.out, by go_grown⟩
     case measure => simp [intOf]; omega
   ·have HH : Hid (plI eh kd pr (k + 1) = plI eh kd pr k) := plI_not (by
     unfold hitB
     rw [t1]
     rfl)
    go_wp2
    go_roundw
    case rel => exact ⟨k + 1, by omega, by go_num, (HO.out.below (by go_grown)).to HH.out, by go_grown⟩
    case measure => simp [intOf]; omega
  ·have hkl : k = len := by omega
   have H4 : Hid (OwnI wr w.heap.size u7 (plI eh kd pr len)) := by
    have := HO.out
    rw [hkl] at this
    exact this
   clear HO hkl
   go_wp2
   go_ret
   exact ⟨_, rfl, H4.out, hbw⟩
theorem specCount_l (ea : Option Addr) (len cap : Nat) (eh : Nat -> E3) (kd pr : Int) (w : World) (hlen : len <= 1048576) (hc : EvL w ea len eh) :
  Calls Tryz.prog 141 #[.slice ea len cap, .int .i64 kd, .int .i64 pr] w fun e w' => e = .returned (.int .i64 ((plN eh kd pr len).length : Nat)) /\ Below w.heap.size w w' := by
 have HC : Hid (EvL w ea len eh) := hc
 clear hc
 go_enter Tryz.func141, Tryz.ntmps141
 go_wp2_with fail
 refine (specValues_l ea len cap eh kd pr w hlen HC.out).mono ?_
 rintro e w1 ⟨v, rfl, o1, b1⟩
 obtain ⟨a0, cp, rfl, -⟩ := o1.form
 rw [valL_length]
 go_wp2
 go_ret
 exact ⟨rfl, b1⟩
theorem implValues_l (ea : Option Addr) (len cap : Nat) (eh : Nat -> E3) (kd pr : Int) (w : World) (hlen : len <= 1048576) (hc : EvL w ea len eh) :
  Calls Tryz.prog 175 #[.slice ea len cap, .int .i64 kd, .int .i64 pr] w fun e w' => ∃ v, e = .returned v /\ OwnI w' w.heap.size v (valL eh kd pr len) /\ Below w.heap.size w w' := by
 have hl' : (len : Int) <= 1048576 := by omega
 have HC : Hid (EvL w ea len eh) := hc
 clear hc
 have hpl := plI_le eh kd pr len
 go_enter Tryz.func175, Tryz.ntmps175
 go_wp2_with fail
 refine (placesOf_l ea len cap eh kd pr _ hlen (HC.out.below (by go_grown))).mono ?_
 rintro e w1 ⟨v, rfl, o1, b1⟩
 have B1 : Hid (Below w.heap.size w w1) := below_up (by go_grown) b1 (by simp)
 obtain ⟨a0, cp, rfl, -⟩ := o1.form
 have HS : Hid (OwnI w1 (w.heap.size + 1) (.slice a0 (plI eh kd pr len).length cp) (plI eh kd pr len)) := by
  rw [World.size_alloc] at o1
  exact o1
 clear o1
 go_wp2_with fail
 have HO : Hid (OwnI w1 w.heap.size (.slice (some ⟨w.heap.size, 0, none⟩) 0 0) []) := (own_empty w).below b1
 clear b1
 go_loopw [7, 16] (fun o i wr => ∃ k : Nat, k <= (plI eh kd pr len).length /\ i = .int .i64 k /\ Hid (OwnI wr w.heap.size o (valT eh kd pr len k)) /\ Below w.heap.size w wr /\ Hid (Away w w1 wr o)) (fun _ i _ => (plI eh kd pr len).length - (intOf i).toNat)
 case atStart => exact ⟨0, Nat.zero_le _, rfl, HO.out, B1.out, ⟨fun j hj => by simp [Value.ownBlock] at hj; exact .inl hj.symm, fun _ _ _ => rfl, Nat.le_refl _⟩⟩
 case round =>
  clear HO B1
  obtain ⟨k, hk, rfl, HO, hbw, HA⟩ := hrel
  have hs := hbw.size
  by_cases hlt : k < (plI eh kd pr len).length
  ·have hlt' : (k : Int) < ((plI eh kd pr len).length : Int) := by omega
   obtain ⟨b0, o0, e0, hb0, hcell⟩ := (HA.out.sl (Nat.lt_succ_self _) HS.out).at hlt
   obtain ⟨q, hq, hql, hqe⟩ := plI_place eh kd pr len k hlt
   have hql' : (q : Int) < (len : Int) := by omega
   rw [hq] at hcell
   subst e0
   have hvl := valT_le eh kd pr len k
   have HH : Hid (valT eh kd pr len (k + 1) = valT eh kd pr len k ++ [(eh q).v]) := valT_next hqe
   obtain ⟨b, off, rfl, -, c0, c1, c2⟩ := (HC.out.below hbw).at hql
   clear hq hqe
   go_wp2_with (at_builtin; refine append_far wr rfl _ _ rfl w.heap.size u7 (valT eh kd pr len k) rfl HO.out (eh q).v rfl (by omega) hs ?_; intro v' w4 o4 g4 a4; have A4 : Hid (Away w w1 w4 v') := HA.out.step g4 a4; have b4 : Below w.heap.size wr w4 := ⟨g4.os, g4.tape, g4.output, g4.size, fun j hj => g4.block j (zL hj hs) (fun e => Nat.not_le_of_lt hj (HO.out.lt j e.symm).1)⟩; have H4 : Hid (OwnI w4 w.heap.size v' (valT eh kd pr len (k + 1))) := o4.to HH.out; clear o4 g4 a4)
   go_roundw
   case rel => exact ⟨k + 1, by omega, by go_num, H4.out, hbw.trans b4, A4.out⟩
   case measure => simp [intOf]; omega
  ·have hkl : k = (plI eh kd pr len).length := by omega
   have H4 : Hid (OwnI wr w.heap.size u7 (valL eh kd pr len)) := by
    have := HO.out
    rw [hkl, valT_all] at this
    exact this
   clear HO hkl
   go_wp2
   go_ret
   exact ⟨_, rfl, H4.out, hbw⟩
theorem specNumbers_l (ea : Option Addr) (len cap : Nat) (h : Nat -> I2) (w : World) (hlen : len <= 1048576) (hc : ItL w ea len h) :
  Calls Tryz.prog 140 #[.slice ea len cap] w fun e w' => ∃ v, e = .returned v /\ OwnI w' w.heap.size v (numL h len) /\ Below w.heap.size w w' := by
 have hl' : (len : Int) <= 1048576 := by omega
 have HC : Hid (ItL w ea len h) := hc
 clear hc
 go_enter Tryz.func140, Tryz.ntmps140
 go_wp2_with fail
 go_loopw [3, 4] (fun o i wr => ∃ k : Nat, k <= len /\ i = .int .i64 k /\ Hid (OwnI wr w.heap.size o (numL h k)) /\ Below w.heap.size w wr) (fun _ i _ => len - (intOf i).toNat)
 case atStart => exact ⟨0, Nat.zero_le _, rfl, own_empty w, (Below.refl _ _).alloc (Nat.le_refl _) _⟩
 case round =>
  obtain ⟨k, hk, rfl, HO, hbw⟩ := hrel
  have hs := hbw.size
  by_cases hlt : k < len
  ·have hlt' : (k : Int) < (len : Int) := by omega
   have hvl := numL_le h k
   obtain ⟨b, off, rfl, -, c0, c1⟩ := (HC.out.below hbw).at hlt
   rcases zK (h k).m with t1 | t1
   ·have HH : Hid (numL h (k + 1) = numL h k) := numL_not t1
    rw [t1] at c0
    go_wp2
    go_roundw
    case rel => exact ⟨k + 1, by omega, by go_num, HO.out.to HH.out, hbw⟩
    case measure => simp [intOf]; omega
   ·have HH : Hid (numL h (k + 1) = numL h k ++ [(h k).v]) := numL_hit t1
    rw [t1] at c0
    go_wp2_with (at_builtin; refine append_one wr rfl _ _ rfl w.heap.size u3 (numL h k) rfl HO.out (h k).v rfl (by omega) hs ?_; intro v' w4 o4 b4; have H4 : Hid (OwnI w4 w.heap.size v' (numL h (k + 1))) := o4.to HH.out; clear o4)
    go_roundw
    case rel => exact ⟨k + 1, by omega, by go_num, H4.out, hbw.trans b4⟩
    case measure => simp [intOf]; omega
  ·have hkl : k = len := by omega
   have H4 : Hid (OwnI wr w.heap.size u3 (numL h len)) := by
    have := HO.out
    rw [hkl] at this
    exact this
   clear HO hkl
   go_wp2
   go_ret
   exact ⟨_, rfl, H4.out, hbw⟩
theorem implNumbers_l (ea : Option Addr) (len cap : Nat) (h : Nat -> I2) (w : World) (hlen : len <= 1048576) (hc : ItL w ea len h) :
  Calls Tryz.prog 149 #[.slice ea len cap] w fun e w' => ∃ v, e = .returned v /\ OwnI w' w.heap.size v (numL h len) /\ Below w.heap.size w w' := by
 have hl' : (len : Int) <= 1048576 := by omega
 have HC : Hid (ItL w ea len h) := hc
 clear hc
 go_enter Tryz.func149, Tryz.ntmps149
 go_wp2_with fail
 go_loopw [3, 9] (fun o i wr => ∃ k : Nat, k <= len /\ i = .int .i64 k /\ Hid (OwnI wr w.heap.size o (numL h k)) /\ Below w.heap.size w wr) (fun _ i _ => len - (intOf i).toNat)
 case atStart => exact ⟨0, Nat.zero_le _, rfl, own_empty w, (Below.refl _ _).alloc (Nat.le_refl _) _⟩
 case round =>
  obtain ⟨k, hk, rfl, HO, hbw⟩ := hrel
  have hs := hbw.size
  by_cases hlt : k < len
  ·have hlt' : (k : Int) < (len : Int) := by omega
   have hvl := numL_le h k
   obtain ⟨b, off, rfl, -, c0, c1⟩ := (HC.out.below hbw).at hlt
   rcases zK (h k).m with t1 | t1
   ·have HH : Hid (numL h (k + 1) = numL h k) := numL_not t1
    rw [t1] at c0
    go_wp2
    go_roundw
    case rel => exact ⟨k + 1, by omega, by go_num, (HO.out.below (by go_grown)).to HH.out, by go_grown⟩
    case measure => simp [intOf]; omega
   ·have HH : Hid (numL h (k + 1) = numL h k ++ [(h k).v]) := numL_hit t1
    rw [t1] at c0
    go_wp2_with (at_builtin; refine append_oneN _ (N := wr.heap.size + 1) (by simp) rfl _ _ rfl w.heap.size u3 (numL h k) rfl (HO.out.below (by go_grown)) (h k).v rfl (by omega) (by simp; omega) ?_; intro v' w4 o4 b4; have H4 : Hid (OwnI w4 w.heap.size v' (numL h (k + 1))) := o4.to HH.out; clear o4)
    go_roundw
    case rel => exact ⟨k + 1, by omega, by go_num, H4.out, Below.trans (by go_grown) b4⟩
    case measure => simp [intOf]; omega
  ·have hkl : k = len := by omega
   have H4 : Hid (OwnI wr w.heap.size u3 (numL h len)) := by
    have := HO.out
    rw [hkl] at this
    exact this
   clear HO hkl
   go_wp2
   go_ret
   exact ⟨_, rfl, H4.out, hbw⟩
open Go.ChangeShapes Go.WideShapes Go.ChangeAt
structure Wo2 where
 m : Int
 v : Int
abbrev woV (m v : Int) : Value := .agg #[.int .i64 m, .int .i64 v]
def WoAt (w : World) (b off len : Nat) (h : Nat -> Wo2) : Prop := ∀ i, i < len ->
 w.cell? ⟨b, off + i * 2, none⟩ = some (.int .i64 (h i).m) /\ w.cell? ⟨b, off + i * 2 + 1, none⟩ = some (.int .i64 (h i).v)
theorem WoAt.below {w w' : World} {B b off len : Nat} {h : Nat -> Wo2} (hh : WoAt w b off len h) (hb : Below B w w') (hB : b < B) : WoAt w' b off len h := by
 intro i hi
 obtain ⟨h0, h1⟩ := hh i hi
 exact ⟨(hb.cell hB).trans h0, (hb.cell hB).trans h1⟩
theorem infoWo : (Tryz.prog.info? 57).map (fun i => (i.zero, i.size, i.bytes)) = some (some (woV 0 0), 2, 16) := by kernel_rfl
theorem run_make_wo (n : Nat) (hn : n <= 1048576) (w : World) :
  (Instr.makeSlice 40 (.int .i64 (n : Int)) (.int .i64 (n : Int))).run Tryz.prog w = .ok (.slice (some ⟨w.heap.size, 0, none⟩) n n) (w.alloc (.cells (madeCells (woV 0 0).cells (n * 2)) 57)) := by
 have hinfo := infoWo
 cases hi : Tryz.prog.info? 57 with
 | none => rw [hi] at hinfo; cases hinfo
 | some i =>
  rw [hi] at hinfo
  simp only [Option.map_some, Option.some.injEq, Prod.mk.injEq] at hinfo
  obtain ⟨hz, hs, hb⟩ := hinfo
  have h := run_make (P := Tryz.prog) w 40 57 i _ Tryz.underlying40 hi hz .i64 .i64 (n : Int) (n : Int) (by omega) (Int.le_refl _) (by rw [hb]; omega) (by omega)
  rw [hs] at h
  simpa using h
theorem madeWo_row (w : World) (n : Nat) : (w.alloc (.cells (madeCells (woV 0 0).cells (n * 2)) 57)).rowIs w.heap.size 57 (n * 2) (fun i => if i % 2 = 0 then .int .i64 0 else .int .i64 0) := by
 refine ⟨_, blk_alloc_new _ _, size_madeCells _ _, fun i hi => ?_⟩
 have h3 : i % 2 < 2 := Nat.mod_lt _ (by omega)
 have : ∀ j, j < 2 -> (#[Value.int .i64 0, .int .i64 0] : Array Value)[j]! = if j = 0 then .int .i64 0 else .int .i64 0 := by
  intro j hj
  match j, hj with
  | 0, _ => rfl
  | 1, _ => rfl
 simp only [madeCells, Value.cells]
 rw [Array.getElem?_map, Array.getElem?_range, if_pos hi]
 exact congrArg some (this (i % 2) h3)
def FilledWo (f : Nat -> Value) (h : Nat -> Wo2) (k : Nat) : Prop := ∀ i, i < k ->
 f (i * 2) = .int .i64 (h i).m /\ f (i * 2 + 1) = .int .i64 (h i).v
theorem FilledWo.at {w : World} {b : Nat} {t : TypeId} {len k : Nat} {f : Nat -> Value} {h : Nat -> Wo2} (hh : FilledWo f h k) (hr : w.rowIs b t (len * 2) f) (hk : k <= len) : WoAt w b 0 k h := by
 intro i hi
 obtain ⟨h0, h1⟩ := hh i hi
 refine ⟨?_, ?_⟩
 ·rw [hr.cell (by omega), Nat.zero_add, h0]
 ·rw [hr.cell (by omega), Nat.zero_add, h1]
theorem FilledWo.step {w : World} {b : Nat} {t : TypeId} {len k : Nat} {f : Nat -> Value} {h : Nat -> Wo2} (hr : w.rowIs b t (len * 2) f) (hh : FilledWo f h k) :
  ∃ f', ((w.setCell ⟨b, k * 2, none⟩ (.int .i64 (h k).m)).setCell ⟨b, k * 2 + 1, none⟩ (.int .i64 (h k).v)).rowIs b t (len * 2) f' /\ FilledWo f' h (k + 1) := by
 refine ⟨_, (hr.set _ _).set _ _, fun i hi => ?_⟩
 by_cases hik : i = k
 ·subst hik
  simp
 ·have hlt : i < k := by omega
  obtain ⟨h0, h1⟩ := hh i hlt
  refine ⟨?_, ?_⟩
  ·rw [if_neg (by omega), if_neg (by omega)]; exact h0
  ·rw [if_neg (by omega), if_neg (by omega)]; exact h1
theorem toWho_any (m v : Int) (w : World) :
  Calls Tryz.prog 30 #[woV m v] w fun e w' => e = .returned (woV m v) /\ Below w.heap.size w w' := by
 go_enter Tryz.func30, Tryz.ntmps30
 go_wp2
 refine bodyPost_ret (v := woV m v) (by simp [results, Tryz.results30, go_sem]) rfl ⟨rfl, ?_⟩
 go_grown
theorem eqWho_same (m v : Int) (w : World) :
  Calls Tryz.prog 38 #[woV m v, woV m v] w fun e w' => e = .returned (.bool true) /\ Below w.heap.size w w' := by
 go_enter Tryz.func38, Tryz.ntmps38
 go_wp2
 go_ret
 exact ⟨rfl, by go_grown⟩
theorem szWhoS_small (a0 : Option Addr) (len cap : Nat) (L : Int) (w : World) (h : (len : Int) <= L) (hL : L <= 1048576) :
  Calls Tryz.prog 6 #[.slice a0 len cap, .int .i64 L] w fun e w' => e = .returned (.int .i64 (L - (len : Int))) /\ w' = w := by
 have h1 : (len : Int) <= 1048576 := by omega
 have h2 : 0 <= L := by omega
 have h3 : ¬ (L - (len : Int) < 0) := by omega
 go_enter Tryz.func6, Tryz.ntmps6
 go_wp2
 go_ret
 exact ⟨rfl, rfl⟩
theorem szWhoS_great (a0 : Option Addr) (len cap : Nat) (L : Int) (w : World) (h : L < (len : Int)) (h0 : 0 <= L) (hL : L <= 1048576) (hm : len <= maxLen) :
  Calls Tryz.prog 6 #[.slice a0 len cap, .int .i64 L] w fun e w' => e = .returned (.int .i64 (-1)) /\ w' = w := by
 unfold maxLen at hm
 have h2 : (len : Int) <= 9223372036854775807 := by omega
 have h3 : L - (len : Int) < 0 := by omega
 go_enter Tryz.func6, Tryz.ntmps6
 go_wp2
 go_ret
 exact ⟨rfl, rfl⟩
theorem toWhoS_free (b off len cap : Nat) (h : Nat -> Wo2) (w : World) (hlen : len <= 1048576) (hb : b < w.heap.size) (hc : WoAt w b off len h) :
  Calls Tryz.prog 9 #[.slice (some ⟨b, off, none⟩) len cap] w fun e w' => e = .returned (.slice (some ⟨w.heap.size, 0, none⟩) len len) /\ WoAt w' w.heap.size 0 len h /\ w.heap.size < w'.heap.size /\ Below w.heap.size w w' /\ ∀ j, w'.frozen? ⟨w.heap.size, j, none⟩ = false := by
 have hl' : (len : Int) <= 1048576 := by omega
 have hmk := run_make_wo len hlen
 have HC : Hid (WoAt w b off len h) := hc
 clear hc
 go_enter Tryz.func9, Tryz.ntmps9
 go_wp2_with fail
 clear hmk
 go_loopw [4] (fun i wr => ∃ k : Nat, k <= len /\ i = .int .i64 k /\ (∃ f, wr.rowIs w.heap.size 57 (len * 2) f /\ Hid (FilledWo f h k)) /\ Below w.heap.size w wr) (fun i _ => len - (intOf i).toNat)
 case atStart => exact ⟨0, Nat.zero_le _, rfl, ⟨_, madeWo_row w len, fun i hi => by omega⟩, (Below.refl _ _).alloc (Nat.le_refl _) _⟩
 case round =>
  obtain ⟨k, hk, rfl, ⟨f, hrow, HF⟩, hbw⟩ := hrel
  have hs := hrow.lt
  by_cases hlt : k < len
  ·obtain ⟨c0, c1⟩ := HC.out.below hbw hb k hlt
   have HR : Hid (wr.rowIs w.heap.size 57 (len * 2) f) := hrow
   clear hrow
   go_wp2_with fail
   refine (toWho_any _ _ _).mono ?_
   rintro e w1 ⟨rfl, hb1⟩
   have hr1 : w1.rowIs w.heap.size 57 (len * 2) f := HR.out.of_block (hb1.block _ hs)
   have f0 := hr1.frozen (k * 2)
   have f1 := hr1.frozen (k * 2 + 1)
   have g0 := hr1.cell (i := k * 2) (by omega)
   have g1 := hr1.cell (i := k * 2 + 1) (by omega)
   have HR1 : Hid (w1.rowIs w.heap.size 57 (len * 2) f) := hr1
   clear hr1
   go_wp2_with fail
   exact ⟨⟨k + 1, by omega, by go_num, FilledWo.step HR1.out HF.out, ((hbw.trans (hb1.mono (Nat.le_of_lt hs))).setCell (Nat.le_refl _) _).setCell (Nat.le_refl _) _⟩, by simp [intOf]; omega⟩
  ·have hkl : k = len := by omega
   have HI : Hid (WoAt wr w.heap.size 0 len h) := by
    have := HF.out.at hrow hk
    rw [hkl] at this
    exact this
   have HZ : Hid (∀ j, wr.frozen? ⟨w.heap.size, j, none⟩ = false) := fun j => hrow.frozen j
   clear hkl HF hrow
   go_wp2
   go_ret
   exact ⟨rfl, HI.out, hs, hbw, HZ.out⟩
theorem toWhoS_freeEmpty (a0 : Option Addr) (cap : Nat) (h : Nat -> Wo2) (w : World) :
  Calls Tryz.prog 9 #[.slice a0 0 cap] w fun e w' => e = .returned (.slice (some ⟨w.heap.size, 0, none⟩) 0 0) /\ WoAt w' w.heap.size 0 0 h /\ w.heap.size < w'.heap.size /\ Below w.heap.size w w' /\ ∀ j, w'.frozen? ⟨w.heap.size, j, none⟩ = false := by
 have hmk : ∀ w : World, (Instr.makeSlice 40 (.int .i64 0) (.int .i64 0)).run Tryz.prog w = .ok (.slice (some ⟨w.heap.size, 0, none⟩) 0 0) (w.alloc (.cells (madeCells (woV 0 0).cells (0 * 2)) 57)) := fun w => run_make_wo 0 (by omega) w
 go_enter Tryz.func9, Tryz.ntmps9
 go_wp2_with fail
 clear hmk
 go_rounds 1
 go_ret
 exact ⟨rfl, fun i hi => by omega, by simp, (Below.refl _ _).alloc (Nat.le_refl _) _, fun j => yA _ _ _ j rfl⟩
def CopiesWo (w : World) (a0 : Option Addr) (len cap : Nat) (h : Nat -> Wo2) : Prop := ∀ wx, Below w.heap.size w wx ->
 Calls Tryz.prog 9 #[.slice a0 len cap] wx fun e w' => e = .returned (.slice (some ⟨wx.heap.size, 0, none⟩) len len) /\ WoAt w' wx.heap.size 0 len h /\ wx.heap.size < w'.heap.size /\ Below wx.heap.size wx w' /\ ∀ j, w'.frozen? ⟨wx.heap.size, j, none⟩ = false
theorem copiesWo_of {W : World} {a0 : Option Addr} {len cap : Nat} (hl : len <= 1048576) (hr : len = 0 \/ ∃ b off h, a0 = some ⟨b, off, none⟩ /\ b < W.heap.size /\ WoAt W b off len h) : ∃ h, CopiesWo W a0 len cap h := by
 rcases hr with rfl | ⟨b, off, h, rfl, hb, hI⟩
 ·exact ⟨fun _ => ⟨0, 0⟩, fun wx _ => toWhoS_freeEmpty a0 cap _ wx⟩
 ·exact ⟨h, fun wx hB => toWhoS_free b off len cap h wx hl (zL hb hB.size) (hI.below hB hb)⟩
theorem eqWhoS_same (b1 b2 len c1 c2 : Nat) (h : Nat -> Wo2) (w : World) (hlen : len <= 1048576) (hb1 : b1 < w.heap.size) (hb2 : b2 < w.heap.size) (hc1 : WoAt w b1 0 len h) (hc2 : WoAt w b2 0 len h) :
  Calls Tryz.prog 12 #[.slice (some ⟨b1, 0, none⟩) len c1, .slice (some ⟨b2, 0, none⟩) len c2] w fun e w' => e = .returned (.bool true) /\ Below w.heap.size w w' := by
 have hl' : (len : Int) <= 1048576 := by omega
 have HC1 : Hid (WoAt w b1 0 len h) := hc1
 have HC2 : Hid (WoAt w b2 0 len h) := hc2
 clear hc1 hc2
 go_enter Tryz.func12, Tryz.ntmps12
 go_wp2_with fail
 go_loopw [5] (fun i wr => ∃ k : Nat, k <= len /\ i = .int .i64 k /\ Below w.heap.size w wr) (fun i _ => len - (intOf i).toNat)
 case atStart => exact ⟨0, Nat.zero_le _, rfl, Below.refl _ _⟩
 case round =>
  obtain ⟨k, hk, rfl, hbw⟩ := hrel
  have hs := hbw.size
  by_cases hlt : k < len
  ·obtain ⟨c0, c1⟩ := HC1.out.below hbw hb1 k hlt
   obtain ⟨d0, d1⟩ := HC2.out.below hbw hb2 k hlt
   have hlt' : (k : Int) < (len : Int) := by omega
   rw [Nat.zero_add] at c0 c1 d0 d1
   go_wp2_with fail
   first | (go_region_with (go_at_call 38; refine (eqWho_same _ _ _).mono ?_; rintro e w1 ⟨rfl, hq1⟩)) | fail
   all_goals
    go_wp2
    go_roundw
    case rel => exact ⟨k + 1, by omega, by go_num, hbw.drew.trans (hq1.mono hs)⟩
    case measure => simp [intOf]; omega
  ·go_wp2
   go_ret
   exact ⟨rfl, hbw⟩
def RoomWo (w : World) (b len : Nat) : Prop := (∀ i, i < len * 2 -> ∃ u, w.cell? ⟨b, i, none⟩ = some u) /\ ∀ j, w.frozen? ⟨b, j, none⟩ = false
theorem RoomWo.set {w : World} {b len : Nat} (h : RoomWo w b len) (p : Addr) (v : Value) : RoomWo (w.setCell p v) b len :=
 ⟨fun i hi => (h.1 i hi).elim fun _ e => cell?_setCell_some e, fun j => by rw [World.frozen?_setCell]; exact h.2 j⟩
theorem RoomWo.of_row {w : World} {b len : Nat} {h : Nat -> Wo2} (hh : WoAt w b 0 len h) (hf : ∀ j, w.frozen? ⟨b, j, none⟩ = false) : RoomWo w b len := by
 refine ⟨fun i hi => ?_, hf⟩
 obtain ⟨c0, c1⟩ := hh (i / 2) (by omega)
 simp only [Nat.zero_add] at c0 c1
 have he : i = i / 2 * 2 \/ i = i / 2 * 2 + 1 := by omega
 rcases he with e | e
 ·rw [e]; exact ⟨_, c0⟩
 ·rw [e]; exact ⟨_, c1⟩
theorem markWhoS_any (b len cap : Nat) (k : Int) (w : World) (hlen : len <= 1048576) (k0 : 0 <= k) (k1 : k <= 100000000) (h : RoomWo w b len) :
  Calls Tryz.prog 14 #[.slice (some ⟨b, 0, none⟩) len cap, .int .i64 k] w fun e w' => e = .returned (.int .i64 (k + 2 * len)) /\ w.grownBy w' (some b) := by
 have hl' : (len : Int) <= 1048576 := by omega
 have HO : Hid (RoomWo w b len) := h
 clear h
 go_enter Tryz.func14, Tryz.ntmps14
 go_wp2_with fail
 go_loopw [1, 5] (fun q i wr => ∃ j : Nat, j <= len /\ i = .int .i64 j /\ q = .int .i64 (k + 2 * j) /\ Hid (RoomWo wr b len /\ w.grownBy wr (some b))) (fun _ i _ => len - (intOf i).toNat)
 case atStart => exact ⟨0, Nat.zero_le _, rfl, by simp, HO.out, World.grownBy.refl _ _⟩
 case round =>
  clear HO
  obtain ⟨j, hj, rfl, rfl, HR⟩ := hrel
  by_cases hlt : j < len
  ·have hlt' : (j : Int) < (len : Int) := by omega
   obtain ⟨u0, c0⟩ := HR.out.1.1 (j * 2) (by omega)
   obtain ⟨u1, c1⟩ := HR.out.1.1 (j * 2 + 1) (by omega)
   have fz := HR.out.1.2
   go_wp2
   go_roundw
   case rel =>
    refine ⟨j + 1, by omega, by go_num, by go_num, ?_⟩
    refine ⟨?_, ?_⟩
    ·repeat (refine RoomWo.set ?_ _ _)
     exact HR.out.1
    ·repeat (refine zU ?_ (.inl rfl) _)
     exact HR.out.2
   case measure => simp [intOf]; omega
  ·have hlt' : ¬ (j : Int) < (len : Int) := by omega
   have HF : Hid (w.grownBy wr (some b)) := HR.out.2
   have hjl : (j : Int) = len := by omega
   have HJ : Hid ((j : Int) = len) := hjl
   clear HR hjl
   go_wp2
   go_ret
   exact ⟨ret_int (by rw [HJ.out]), HF.out⟩
theorem cellsLawWo : Tryz.prog.cellsOf 68 = 2 := by kernel_rfl
theorem open_woCells {H : Type} {enc : TypeId × Value -> H} {w : World} {base fuel : Nat} {spare : Nat -> Bool} {held : Bool} {c0 c1 : Value} {x : DataW H × List MemPlace}
  (hf : DataW.trod enc Tryz.prog w base spare held fuel 68 [c0, c1] = some x) :
  ∃ (m v : Int), c0 = .int .i64 m /\ c1 = .int .i64 v := by
 obtain ⟨xs, m, -, -, -, hl, hx⟩ := DataW.trod_struct Tryz.underlying68 hf
 have hl : xs.length = 2 := hl
 have q0 : DataW.trod enc Tryz.prog w base spare held m 3 [c0] = xs[0]? := by simpa [cellsInt] using hx 0 _ rfl
 have q1 : DataW.trod enc Tryz.prog w base spare held m 3 [c1] = xs[1]? := by simpa [cellsInt] using hx 1 _ rfl
 rw [List.getElem?_eq_getElem (by omega)] at q0 q1
 obtain ⟨z0, e0, -, -⟩ := DataW.trod_int Tryz.underlying3 q0
 obtain ⟨z1, e1, -, -⟩ := DataW.trod_int Tryz.underlying3 q1
 simp only [List.cons.injEq, and_true] at e0 e1
 exact ⟨z0, z1, e0, e1⟩
theorem open_woRow {H : Type} {enc : TypeId × Value -> H} {w : World} {spare : Nat -> Bool} {held : Bool} {base : Nat} {a0 : Option Addr} {len cap : Nat} {d : DataW H} {p : List MemPlace}
  (h : DataW.Trod enc Tryz.prog w base spare held 28 (.slice a0 len cap) d p) :
  len <= maxLen /\ (len = 0 \/ ∃ b off h, a0 = some ⟨b, off, none⟩ /\ b < w.heap.size /\ WoAt w b off len h) := by
 obtain ⟨fuel, hf⟩ := h
 rcases Go.Deep.open_slice Tryz.underlying28 hf with ⟨hcs, _⟩ | ⟨a, len', cap', m, n, D, Pl, hcs, _, hl, hm, hmm, _, hx⟩
 ·simp [Value.cells] at hcs
  obtain ⟨_, rfl, _⟩ := hcs
  exact ⟨Nat.zero_le _, .inl rfl⟩
 ·simp [Value.cells] at hcs
  obtain ⟨rfl, rfl, rfl⟩ := hcs
  refine ⟨zO hl hm, ?_⟩
  by_cases h0 : len = 0
  ·exact .inl h0
  right
  have hle : len <= m := by rw [hmm]; split <;> omega
  rw [cellsLawWo] at hx
  obtain ⟨b, off, spot⟩ := a
  have hcell : ∀ i, i < len -> ∃ x : Wo2, w.cell? (Addr.add (Addr.add ⟨b, off, spot⟩ (i * 2)) 0) = some (.int .i64 x.m) /\ w.cell? (Addr.add (Addr.add ⟨b, off, spot⟩ (i * 2)) 1) = some (.int .i64 x.v) := by
   intro i hi
   obtain ⟨cs', h1, h2⟩ := hx i (by omega)
   obtain ⟨_, hlen, hc⟩ := World.cells?_some h1
   match cs', hlen with
   | [c0, c1], _ =>
    obtain ⟨k, v, rfl, rfl⟩ := open_woCells h2
    exact ⟨⟨k, v⟩, hc 0 (by omega), hc 1 (by omega)⟩
  have hspot : spot = none := by
   obtain ⟨x, hx0, _⟩ := hcell 0 (by omega)
   simpa [Addr.add] using World.cell?_spot hx0
  subst hspot
  have inh : Inhabited Wo2 := ⟨⟨0, 0⟩⟩
  obtain ⟨g, hg⟩ := Go.Deep.choose_lt (α := Wo2) hcell
  have hI : WoAt w b off len g := by
   intro i hi
   obtain ⟨q0, q1⟩ := hg i hi
   rw [addr_addO, addr_addO] at q0 q1
   exact ⟨q0, q1⟩
  exact ⟨b, off, g, rfl, cell_lt (hI 0 (by omega)).1, hI⟩
open Go
section
variable {P : Program} {ops : Array Oper} {Q : Exit -> Act -> World -> Prop} {md : Region.Mode} {S : World -> Prop} {G : Nat -> Bool}
def wpG (P : Program) (md : Region.Mode) (ops : Array Oper) (Q : Exit -> Act -> World -> Prop) (S : World -> Prop) (G : Nat -> Bool) : Nat -> Array Bool -> Act -> World -> Prop
 | 0, listed, a, w => Region.ready md ops listed = [] /\ Q .normal a w
 | fuel + 1, listed, a, w => (Region.ready md ops listed = [] -> Q .normal a w) /\ ∀ i ∈ Region.ready md ops listed, wpOp P ops Q i (fun a' w' => (S w -> G i = false -> S w') /\ wpG P md ops Q S G fuel (listed.setIfInBounds i true) a' w') a w
theorem wpAny_of_G : ∀ (fuel : Nat) (listed : Array Bool) (a : Act) (w : World), wpG P md ops Q S G fuel listed a w -> wpAny P md ops Q fuel listed a w
 | 0, _, _, _, h => h
 | fuel + 1, _, _, _, h => ⟨h.1, fun i hi => wpOp_mono (fun a' w' h' => wpAny_of_G fuel _ a' w' h'.2) (h.2 i hi)⟩
def waitG (md : Region.Mode) (ops : Array Oper) (G : Nat -> Bool) (listed : Array Bool) (i : Nat) : Bool :=
 (List.range ops.size).all fun j => !G j || listed.getD j true || match ops[j]? with
  | some oj => oj.after.any fun e => Region.binds md e && e.on == i
  | none => true
theorem waitG_spec {listed : Array Bool} {i : Nat} (h : waitG md ops G listed i = true) {j : Nat} {oj : Oper} (hj : ops[j]? = some oj) (hg : G j = true) (hu : listed.getD j true = false) : ∃ e ∈ oj.after, Region.binds md e = true /\ e.on = i := by
 simp only [waitG, List.all_eq_true, List.mem_range] at h
 have h1 := h j (Array.getElem?_eq_some_iff.1 hj).1
 simp only [hj, hg, hu, Bool.not_true, Bool.false_or] at h1
 obtain ⟨e, he, hb⟩ := Array.any_eq_true'.1 h1
 simp only [Bool.and_eq_true, beq_iff_eq] at hb
 exact ⟨e, he, hb.1, hb.2⟩
theorem wpG_first {i : Nat} {oi : Oper} {v : Value} (hi : ops[i]? = some oi) (hsel : ∀ (j : Nat) (o : Oper) cs b, ops[j]? = some o -> o.op ≠ .select cs b)
  (hQ : ∀ c a w, Q (.panic c) (a.put oi.dst v) w -> Q (.panic c) a w) :
  ∀ (fuel : Nat) (listed : Array Bool) (a : Act) (w : World),
   (∀ j oj, ops[j]? = some oj -> j ≠ i -> listed.getD j true = false -> (∀ e ∈ oj.after, Region.binds md e = true -> e.on ≠ i) -> oi.apart ops oj = true) ->
   (∀ j oj, ops[j]? = some oj -> G j = true -> listed.getD j true = false -> ∃ e ∈ oj.after, Region.binds md e = true /\ e.on = i) ->
   i ∈ Region.ready md ops listed -> YieldsIf P ops S oi v a -> S w ->
   wpG P md ops Q S G fuel (listed.setIfInBounds i true) (a.put oi.dst v) w -> wpG P md ops Q S G (fuel + 1) listed a w := by
 intro fuel
 induction fuel with
 | zero =>
  intro listed a w _ _ hr hy hS H
  refine ⟨fun h => (by rw [h] at hr; cases hr), fun j hj => ?_⟩
  by_cases hji : j = i
  ·subst hji
   exact hy.wpOp hi hS ⟨fun _ _ => hS, H⟩
  ·have := ready_mono hj hji
   rw [H.1] at this
   cases this
 | succ fuel ih =>
  intro listed a w hfree hG hr hy hS H
  refine ⟨fun h => (by rw [h] at hr; cases hr), fun j hj => ?_⟩
  by_cases hji : j = i
  ·subst hji
   exact hy.wpOp hi hS ⟨fun _ _ => hS, H⟩
  ·obtain ⟨hjun, oj, hoj, hall⟩ := mem_ready.1 hj
   have hiun := (mem_ready.1 hr).1
   have hnot : ∀ e ∈ oj.after, Region.binds md e = true -> e.on ≠ i := fun e he hb heq => by
    have h1 := hall e he hb
    rw [heq] at h1
    rcases Nat.lt_or_ge i listed.size with h' | h'
    ·simp [h'] at hiun h1
     rw [hiun] at h1
     cases h1
    ·simp [Array.getElem?_eq_none h'] at h1
   have hGj : G j = false := by
    cases hg : G j with
    | false => rfl
    | true =>
     obtain ⟨e, he, hb, heq⟩ := hG j oj hoj hg hjun
     exact absurd heq (hnot e he hb)
   have h2 := wpOp_putIf hoj (hfree j oj hoj hji hjun hnot) (fun cs b => hsel i oi cs b hi) (fun cs b => hsel j oj cs b hoj) hQ hy (H.2 j (ready_mono hj hji))
   have hun' : ∀ k, (listed.setIfInBounds j true).getD k true = false -> listed.getD k true = false := fun k hk => by
    by_cases hjk : j = k
    ·subst hjk
     exact hjun
    ·rw [_root_.Go.getD_set_ne true hjk] at hk
     exact hk
   refine wpOp_mono (fun a' w' h3 => ⟨h3.2.1, ih (listed.setIfInBounds j true) a' w' (fun k ok hk hki hun hno => hfree k ok hk hki (hun' k hun) hno) (fun k ok hk hg hun => hG k ok hk hg (hun' k hun)) (ready_mono hr (Ne.symm hji)) h3.1 (h3.2.1 hS hGj) ?_⟩) h2
   rw [Array.setIfInBounds_comm _ _ hji]
   exact h3.2.2
theorem wpG_take (i : Nat) {oi : Oper} {fuel : Nat} {listed : Array Bool} {a : Act} {w : World} (hi0 : ops.toList[i]? = some oi) (hS : S w)
  (h : ∃ v, (∀ w, S w -> (execOp a.eval oi).run P w = .ok (.value v) w) /\ wpG P md ops Q S G fuel (listed.setIfInBounds i true) (a.put oi.dst v) w) (hs : Region.noSelect ops = true := by kernel_rfl) (hf : Region.free md ops listed i = true := by kernel_rfl) (hr : (Region.ready md ops listed).contains i = true := by kernel_rfl) (hg : waitG md ops G listed i = true := by kernel_rfl)
  (hQ : ∀ v c a w, Q (.panic c) (a.put oi.dst v) w -> Q (.panic c) a w := by exact fun _ _ _ _ h => h) (hw : Region.wanted oi (yielded ops a.tmps) = true := by rfl) : wpG P md ops Q S G (fuel + 1) listed a w := by
 obtain ⟨v, hv, h⟩ := h
 have hi : ops[i]? = some oi := by rw [<- Array.getElem?_toList]; exact hi0
 exact wpG_first hi (Region.noSelect_spec hs) (hQ v) fuel listed a w (Region.free_spec hi hf) (fun j oj hj hgj hu => waitG_spec hg hj hgj hu) (by simpa using hr) (.inl ⟨hw, hv⟩) hS h
def wpGT (P : Program) (md : Region.Mode) (ops : Array Oper) (Q : Exit -> Act -> World -> Prop) (S : World -> Prop) (G : Nat -> Bool) (_ : List Nat) (fuel : Nat) (listed : Array Bool) (a : Act) (w : World) : Prop := wpG P md ops Q S G fuel listed a w
theorem wpGT_of (is : List Nat) {fuel : Nat} {listed : Array Bool} {a : Act} {w : World} (h : wpGT P md ops Q S G is fuel listed a w) : wpG P md ops Q S G fuel listed a w := h
theorem wpGT_nil {fuel : Nat} {listed : Array Bool} {a : Act} {w : World} (h : wpG P md ops Q S G fuel listed a w) : wpGT P md ops Q S G [] fuel listed a w := h
theorem wpGT_take {i : Nat} {is : List Nat} {oi : Oper} {fuel : Nat} {listed : Array Bool} {a : Act} {w : World} (hi0 : ops.toList[i]? = some oi) (hS : S w)
  (h : ∃ v, (∀ w, S w -> (execOp a.eval oi).run P w = .ok (.value v) w) /\ wpGT P md ops Q S G is fuel (listed.setIfInBounds i true) (a.put oi.dst v) w) (hs : Region.noSelect ops = true := by kernel_rfl) (hf : Region.free md ops listed i = true := by kernel_rfl) (hr : (Region.ready md ops listed).contains i = true := by kernel_rfl) (hg : waitG md ops G listed i = true := by kernel_rfl)
  (hQ : ∀ v c a w, Q (.panic c) (a.put oi.dst v) w -> Q (.panic c) a w := by exact fun _ _ _ _ h => h) (hw : Region.wanted oi (yielded ops a.tmps) = true := by rfl) : wpGT P md ops Q S G (i :: is) (fuel + 1) listed a w := wpG_take i hi0 hS h hs hf hr hg hQ hw
theorem wpG_one (i : Nat) {oi : Oper} {fuel : Nat} {listed : Array Bool} {a : Act} {w : World} (hi0 : ops.toList[i]? = some oi) (hr : Region.ready md ops listed = [i])
  (h : ∀ K' : Act -> World -> Prop, Shut (∀ a w, (G i = false -> S w) -> wpG P md ops Q S G fuel (listed.setIfInBounds i true) a w -> K' a w) -> if Region.wanted oi (yielded ops a.tmps) = true then Oper.wp P oi a w K' Q else K' (a.put oi.dst undef) w) : wpG P md ops Q S G (fuel + 1) listed a w :=
 ⟨fun h0 => (by rw [hr] at h0; cases h0), fun j hj => by
  rw [hr] at hj
  obtain rfl := List.mem_singleton.1 hj
  have hi : ops[j]? = some oi := by rw [<- Array.getElem?_toList]; exact hi0
  exact wpOp_step hi fun K' hK => h K' fun a w h1 h2 => hK a w ⟨fun _ => h1, h2⟩⟩
theorem wpG_two (i j : Nat) {oi oj : Oper} {fuel : Nat} {listed : Array Bool} {a : Act} {w : World} (hi0 : ops.toList[i]? = some oi) (hj0 : ops.toList[j]? = some oj) (hr : Region.ready md ops listed = [i, j])
  (h : ∀ K' : Act -> World -> Prop, Shut (∀ a w, (G i = false -> S w) -> wpG P md ops Q S G fuel (listed.setIfInBounds i true) a w -> K' a w) -> if Region.wanted oi (yielded ops a.tmps) = true then Oper.wp P oi a w K' Q else K' (a.put oi.dst undef) w)
  (h' : ∀ K' : Act -> World -> Prop, Shut (∀ a w, (G j = false -> S w) -> wpG P md ops Q S G fuel (listed.setIfInBounds j true) a w -> K' a w) -> if Region.wanted oj (yielded ops a.tmps) = true then Oper.wp P oj a w K' Q else K' (a.put oj.dst undef) w) : wpG P md ops Q S G (fuel + 1) listed a w :=
 ⟨fun h0 => (by rw [hr] at h0; cases h0), fun k hk => by
  rw [hr] at hk
  have hi : ops[i]? = some oi := by rw [<- Array.getElem?_toList]; exact hi0
  have hj : ops[j]? = some oj := by rw [<- Array.getElem?_toList]; exact hj0
  rcases List.mem_cons.1 hk with rfl | hk
  ·exact wpOp_step hi fun K' hK => h K' fun a w h1 h2 => hK a w ⟨fun _ => h1, h2⟩
  ·obtain rfl := List.mem_singleton.1 hk
   exact wpOp_step hj fun K' hK => h' K' fun a w h1 h2 => hK a w ⟨fun _ => h1, h2⟩⟩
theorem wpG_done {listed : Array Bool} {a : Act} {w : World} (hr : Region.ready md ops listed = []) (h : Q .normal a w) : ∀ fuel, wpG P md ops Q S G fuel listed a w
 | 0 => ⟨hr, h⟩
 | _ + 1 => ⟨fun _ => h, by rw [hr]; simp⟩
theorem wp_region_G {id : Nat} {a : Act} {w : World} (S : World -> Prop) (G : Nat -> Bool) (hm : P.follows .mixedOrders = true) (h : wpG P .any ops Q S G ops.size (Array.replicate ops.size false) a w.drew) : (Code.region id ops true).wp P Q a w :=
 wp_region_any hm (wpAny_of_G _ _ _ _ h)
end
theorem stepR_callD {ops : Array Oper} {o : Oper} {a : Act} {w : World} {K : Act -> World -> Prop} {Q : Exit -> Act -> World -> Prop} {E : Prop} (hw : Region.wanted o (yielded ops a.tmps) = true) (f : FuncId) (args : Array Operand) (ts : Array TypeId)
  (ho : o.op = .call { callee := .value (.func f), args := args, argTypes := ts }) (vals : Array Value) (hv : args.map a.eval = vals) (hen : ∀ vs wx, (callFunc f vs).run Tryz.prog wx = .ok (.enter f vs) wx) {post : Ending -> World -> Prop} (hc : Calls Tryz.prog f vals w post)
  (h : ∀ e w', post e w' -> ∃ v, e = .returned v /\ K (a.put o.dst v) w') :
  if Region.wanted o (yielded ops a.tmps) = true then Oper.wp Tryz.prog o a w K Q else E := by
 rw [if_pos hw]
 have hr : (execOp a.eval o).run Tryz.prog w = .ok (.enter f vals) w := by
  unfold execOp
  simp [ho, resolve, invoke, hv, hen, Act.eval, Deferred.ofValue]
 unfold Oper.wp
 rw [hr, Oper.upon_enter]
 refine hc.mono fun e w' hp => ?_
 obtain ⟨v, rfl, hk⟩ := h e w' hp
 exact hk
end Go.Proofs.YthdaejgmfognbabGreatDoor
