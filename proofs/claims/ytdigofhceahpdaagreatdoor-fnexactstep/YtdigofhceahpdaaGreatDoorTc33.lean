/- Marks on lists of one's own, and that they are held. -/
import Derived.Test.YtdigofhceahpdaaGreatDoorTc0
import Derived.Test.YtdigofhceahpdaaGreatDoorTc30
import Derived.Test.YtdigofhceahpdaaGreatDoorTc16
import Derived.Test.YtdigofhceahpdaaGreatDoorTc32
namespace Go.Proofs.YtdigofhceahpdaaGreatDoor
set_option maxRecDepth 100000
set_option maxHeartbeats 1000000
open Go.RowKit Go.Deep
theorem specValues_l (ea : Option Addr) (len cap : Nat) (eh : Nat → E3) (kd pr : Int) (w : World) (hlen : len ≤ 1048576) (hc : EvL w ea len eh) :
  Calls Tryz.prog 60 #[.slice ea len cap, .int .i64 kd, .int .i64 pr] w fun e w' => ∃ v, e = .returned v ∧ OwnI w' w.heap.size v (valL eh kd pr len) ∧ Below w.heap.size w w' := by
 have hl' : (len : Int) ≤ 1048576 := by omega
 have HC : Hid (EvL w ea len eh) := hc
 clear hc
 go_enter Tryz.func60, Tryz.ntmps60
 go_wp2_with fail
 go_loopw [7, 8] (fun o i wr => ∃ k : Nat, k ≤ len ∧ i = .int .i64 k ∧ Hid (OwnI wr w.heap.size o (valL eh kd pr k)) ∧ Below w.heap.size w wr) (fun _ i _ => len - (intOf i).toNat)
 case atStart => exact ⟨0, Nat.zero_le _, rfl, own_empty w, (Below.refl _ _).alloc (Nat.le_refl _) _⟩
 case round =>
  obtain ⟨k, hk, rfl, HO, hbw⟩ := hrel
  have hs := hbw.size
  by_cases hlt : k < len
  ·have hlt' : (k : Int) < (len : Int) := by omega
   have hvl := valL_le eh kd pr k
   obtain ⟨b, off, rfl, -, c0, c1, c2⟩ := (HC.out.below hbw).at hlt
   rcases Bool.eq_false_or_eq_true ((eh k).k == kd) with t1 | t1
   ·rcases Bool.eq_false_or_eq_true ((eh k).q == pr) with t2 | t2
    ·have HH : Hid (valL eh kd pr (k + 1) = valL eh kd pr k ++ [(eh k).v]) := valL_hit (by
      unfold hitB
      rw [t1, t2]
      rfl)
     go_wp2_with (at_builtin; refine append_one wr rfl _ _ rfl w.heap.size u7 (valL eh kd pr k) rfl HO.out (eh k).v rfl (by omega) hs ?_; intro v' w4 o4 b4; have H4 : Hid (OwnI w4 w.heap.size v' (valL eh kd pr (k + 1))) := o4.to HH.out; clear o4)
     go_roundw
     case rel => exact ⟨k + 1, by omega, by go_num, H4.out, hbw.trans b4⟩
     case measure => simp [intOf]; omega
    ·have HH : Hid (valL eh kd pr (k + 1) = valL eh kd pr k) := valL_not (by
      unfold hitB
      rw [t1, t2]
      rfl)
     go_wp2
     go_roundw
     case rel => exact ⟨k + 1, by omega, by go_num, HO.out.to HH.out, hbw⟩
     case measure => simp [intOf]; omega
   ·have HH : Hid (valL eh kd pr (k + 1) = valL eh kd pr k) := valL_not (by
     unfold hitB
     rw [t1]
     rfl)
    go_wp2
    go_roundw
    case rel => exact ⟨k + 1, by omega, by go_num, HO.out.to HH.out, hbw⟩
    case measure => simp [intOf]; omega
  ·have hkl : k = len := by omega
   have H4 : Hid (OwnI wr w.heap.size u7 (valL eh kd pr len)) := by
    have := HO.out
    rw [hkl] at this
    exact this
   clear HO hkl
   go_wp2
   go_ret
   exact ⟨_, rfl, H4.out, hbw⟩
theorem placesOf_l (ea : Option Addr) (len cap : Nat) (eh : Nat → E3) (kd pr : Int) (w : World) (hlen : len ≤ 1048576) (hc : EvL w ea len eh) :
  Calls Tryz.prog 154 #[.slice ea len cap, .int .i64 kd, .int .i64 pr] w fun e w' => ∃ v, e = .returned v ∧ OwnI w' w.heap.size v (plI eh kd pr len) ∧ Below w.heap.size w w' := by
 have hl' : (len : Int) ≤ 1048576 := by omega
 have HC : Hid (EvL w ea len eh) := hc
 clear hc
 go_enter Tryz.func154, Tryz.ntmps154
 go_wp2_with fail
 go_loopw [7, 13] (fun o i wr => ∃ k : Nat, k ≤ len ∧ i = .int .i64 k ∧ Hid (OwnI wr w.heap.size o (plI eh kd pr k)) ∧ Below w.heap.size w wr) (fun _ i _ => len - (intOf i).toNat)
 case atStart => exact ⟨0, Nat.zero_le _, rfl, own_empty w, (Below.refl _ _).alloc (Nat.le_refl _) _⟩
 case round =>
  obtain ⟨k, hk, rfl, HO, hbw⟩ := hrel
  have hs := hbw.size
  by_cases hlt : k < len
  ·have hlt' : (k : Int) < (len : Int) := by omega
   have hvl := plI_le eh kd pr k
   obtain ⟨b, off, rfl, -, c0, c1, c2⟩ := (HC.out.below hbw).at hlt
   rcases Bool.eq_false_or_eq_true ((eh k).k == kd) with t1 | t1
   ·rcases Bool.eq_false_or_eq_true ((eh k).q == pr) with t2 | t2
    ·have HH : Hid (plI eh kd pr (k + 1) = plI eh kd pr k ++ [(k : Int)]) := plI_hit (by
      unfold hitB
      rw [t1, t2]
      rfl)
     go_wp2_with (at_builtin; refine append_oneN _ (N := wr.heap.size + 1) (by simp) rfl _ _ rfl w.heap.size u7 (plI eh kd pr k) rfl (HO.out.below (by go_grown)) k rfl (by omega) (by simp; omega) ?_; intro v' w4 o4 b4; have H4 : Hid (OwnI w4 w.heap.size v' (plI eh kd pr (k + 1))) := o4.to HH.out; clear o4)
     go_roundw
     case rel => exact ⟨k + 1, by omega, by go_num, H4.out, Below.trans (by go_grown) b4⟩
     case measure => simp [intOf]; omega
    ·have HH : Hid (plI eh kd pr (k + 1) = plI eh kd pr k) := plI_not (by
      unfold hitB
      rw [t1, t2]
      rfl)
     go_wp2
     go_roundw
     case rel => exact ⟨k + 1, by omega, by go_num, (HO.out.below (by go_grown)).to HH.out, by go_grown⟩
     case measure => simp [intOf]; omega
   ·have HH : Hid (plI eh kd pr (k + 1) = plI eh kd pr k) := plI_not (by
     unfold hitB
     rw [t1]
     rfl)
    go_wp2
    go_roundw
    case rel => exact ⟨k + 1, by omega, by go_num, (HO.out.below (by go_grown)).to HH.out, by go_grown⟩
    case measure => simp [intOf]; omega
  ·have hkl : k = len := by omega
   have H4 : Hid (OwnI wr w.heap.size u7 (plI eh kd pr len)) := by
    have := HO.out
    rw [hkl] at this
    exact this
   clear HO hkl
   go_wp2
   go_ret
   exact ⟨_, rfl, H4.out, hbw⟩
theorem specCount_l (ea : Option Addr) (len cap : Nat) (eh : Nat → E3) (kd pr : Int) (w : World) (hlen : len ≤ 1048576) (hc : EvL w ea len eh) :
  Calls Tryz.prog 108 #[.slice ea len cap, .int .i64 kd, .int .i64 pr] w fun e w' => e = .returned (.int .i64 ((plN eh kd pr len).length : Nat)) ∧ Below w.heap.size w w' := by
 have HC : Hid (EvL w ea len eh) := hc
 clear hc
 go_enter Tryz.func108, Tryz.ntmps108
 go_wp2_with fail
 refine (specValues_l ea len cap eh kd pr w hlen HC.out).mono ?_
 rintro e w1 ⟨v, rfl, o1, b1⟩
 obtain ⟨a0, cp, rfl, -⟩ := o1.form
 rw [valL_length]
 go_wp2
 go_ret
 exact ⟨rfl, b1⟩
theorem implValues_l (ea : Option Addr) (len cap : Nat) (eh : Nat → E3) (kd pr : Int) (w : World) (hlen : len ≤ 1048576) (hc : EvL w ea len eh) :
  Calls Tryz.prog 159 #[.slice ea len cap, .int .i64 kd, .int .i64 pr] w fun e w' => ∃ v, e = .returned v ∧ OwnI w' w.heap.size v (valL eh kd pr len) ∧ Below w.heap.size w w' := by
 have hl' : (len : Int) ≤ 1048576 := by omega
 have HC : Hid (EvL w ea len eh) := hc
 clear hc
 have hpl := plI_le eh kd pr len
 go_enter Tryz.func159, Tryz.ntmps159
 go_wp2_with fail
 refine (placesOf_l ea len cap eh kd pr _ hlen (HC.out.below (by go_grown))).mono ?_
 rintro e w1 ⟨v, rfl, o1, b1⟩
 have B1 : Hid (Below w.heap.size w w1) := below_up (by go_grown) b1 (by simp)
 obtain ⟨a0, cp, rfl, -⟩ := o1.form
 have HS : Hid (OwnI w1 (w.heap.size + 1) (.slice a0 (plI eh kd pr len).length cp) (plI eh kd pr len)) := by
  rw [World.size_alloc] at o1
  exact o1
 clear o1
 go_wp2_with fail
 have HO : Hid (OwnI w1 w.heap.size (.slice (some ⟨w.heap.size, 0, none⟩) 0 0) []) := (own_empty w).below b1
 clear b1
 go_loopw [7, 16] (fun o i wr => ∃ k : Nat, k ≤ (plI eh kd pr len).length ∧ i = .int .i64 k ∧ Hid (OwnI wr w.heap.size o (valT eh kd pr len k)) ∧ Below w.heap.size w wr ∧ Hid (Away w w1 wr o)) (fun _ i _ => (plI eh kd pr len).length - (intOf i).toNat)
 case atStart => exact ⟨0, Nat.zero_le _, rfl, HO.out, B1.out, ⟨fun j hj => by simp [Value.ownBlock] at hj; exact .inl hj.symm, fun _ _ _ => rfl, Nat.le_refl _⟩⟩
 case round =>
  clear HO B1
  obtain ⟨k, hk, rfl, HO, hbw, HA⟩ := hrel
  have hs := hbw.size
  by_cases hlt : k < (plI eh kd pr len).length
  ·have hlt' : (k : Int) < ((plI eh kd pr len).length : Int) := by omega
   obtain ⟨b0, o0, e0, hb0, hcell⟩ := (HA.out.sl (Nat.lt_succ_self _) HS.out).at hlt
   obtain ⟨q, hq, hql, hqe⟩ := plI_place eh kd pr len k hlt
   have hql' : (q : Int) < (len : Int) := by omega
   rw [hq] at hcell
   subst e0
   have hvl := valT_le eh kd pr len k
   have HH : Hid (valT eh kd pr len (k + 1) = valT eh kd pr len k ++ [(eh q).v]) := valT_next hqe
   obtain ⟨b, off, rfl, -, c0, c1, c2⟩ := (HC.out.below hbw).at hql
   clear hq hqe
   go_wp2_with (at_builtin; refine append_far wr rfl _ _ rfl w.heap.size u7 (valT eh kd pr len k) rfl HO.out (eh q).v rfl (by omega) hs ?_; intro v' w4 o4 g4 a4; have A4 : Hid (Away w w1 w4 v') := HA.out.step g4 a4; have b4 : Below w.heap.size wr w4 := ⟨g4.os, g4.tape, g4.output, g4.size, fun j hj => g4.block j (Nat.lt_of_lt_of_le hj hs) (fun e => Nat.not_le_of_lt hj (HO.out.lt j e.symm).1)⟩; have H4 : Hid (OwnI w4 w.heap.size v' (valT eh kd pr len (k + 1))) := o4.to HH.out; clear o4 g4 a4)
   go_roundw
   case rel => exact ⟨k + 1, by omega, by go_num, H4.out, hbw.trans b4, A4.out⟩
   case measure => simp [intOf]; omega
  ·have hkl : k = (plI eh kd pr len).length := by omega
   have H4 : Hid (OwnI wr w.heap.size u7 (valL eh kd pr len)) := by
    have := HO.out
    rw [hkl, valT_all] at this
    exact this
   clear HO hkl
   go_wp2
   go_ret
   exact ⟨_, rfl, H4.out, hbw⟩
theorem specNumbers_l (ea : Option Addr) (len cap : Nat) (h : Nat → I2) (w : World) (hlen : len ≤ 1048576) (hc : ItL w ea len h) :
  Calls Tryz.prog 114 #[.slice ea len cap] w fun e w' => ∃ v, e = .returned v ∧ OwnI w' w.heap.size v (numL h len) ∧ Below w.heap.size w w' := by
 have hl' : (len : Int) ≤ 1048576 := by omega
 have HC : Hid (ItL w ea len h) := hc
 clear hc
 go_enter Tryz.func114, Tryz.ntmps114
 go_wp2_with fail
 go_loopw [3, 4] (fun o i wr => ∃ k : Nat, k ≤ len ∧ i = .int .i64 k ∧ Hid (OwnI wr w.heap.size o (numL h k)) ∧ Below w.heap.size w wr) (fun _ i _ => len - (intOf i).toNat)
 case atStart => exact ⟨0, Nat.zero_le _, rfl, own_empty w, (Below.refl _ _).alloc (Nat.le_refl _) _⟩
 case round =>
  obtain ⟨k, hk, rfl, HO, hbw⟩ := hrel
  have hs := hbw.size
  by_cases hlt : k < len
  ·have hlt' : (k : Int) < (len : Int) := by omega
   have hvl := numL_le h k
   obtain ⟨b, off, rfl, -, c0, c1⟩ := (HC.out.below hbw).at hlt
   rcases Bool.eq_false_or_eq_true (h k).m with t1 | t1
   ·have HH : Hid (numL h (k + 1) = numL h k) := numL_not t1
    rw [t1] at c0
    go_wp2
    go_roundw
    case rel => exact ⟨k + 1, by omega, by go_num, HO.out.to HH.out, hbw⟩
    case measure => simp [intOf]; omega
   ·have HH : Hid (numL h (k + 1) = numL h k ++ [(h k).v]) := numL_hit t1
    rw [t1] at c0
    go_wp2_with (at_builtin; refine append_one wr rfl _ _ rfl w.heap.size u3 (numL h k) rfl HO.out (h k).v rfl (by omega) hs ?_; intro v' w4 o4 b4; have H4 : Hid (OwnI w4 w.heap.size v' (numL h (k + 1))) := o4.to HH.out; clear o4)
    go_roundw
    case rel => exact ⟨k + 1, by omega, by go_num, H4.out, hbw.trans b4⟩
    case measure => simp [intOf]; omega
  ·have hkl : k = len := by omega
   have H4 : Hid (OwnI wr w.heap.size u3 (numL h len)) := by
    have := HO.out
    rw [hkl] at this
    exact this
   clear HO hkl
   go_wp2
   go_ret
   exact ⟨_, rfl, H4.out, hbw⟩
theorem implNumbers_l (ea : Option Addr) (len cap : Nat) (h : Nat → I2) (w : World) (hlen : len ≤ 1048576) (hc : ItL w ea len h) :
  Calls Tryz.prog 121 #[.slice ea len cap] w fun e w' => ∃ v, e = .returned v ∧ OwnI w' w.heap.size v (numL h len) ∧ Below w.heap.size w w' := by
 have hl' : (len : Int) ≤ 1048576 := by omega
 have HC : Hid (ItL w ea len h) := hc
 clear hc
 go_enter Tryz.func121, Tryz.ntmps121
 go_wp2_with fail
 go_loopw [3, 9] (fun o i wr => ∃ k : Nat, k ≤ len ∧ i = .int .i64 k ∧ Hid (OwnI wr w.heap.size o (numL h k)) ∧ Below w.heap.size w wr) (fun _ i _ => len - (intOf i).toNat)
 case atStart => exact ⟨0, Nat.zero_le _, rfl, own_empty w, (Below.refl _ _).alloc (Nat.le_refl _) _⟩
 case round =>
  obtain ⟨k, hk, rfl, HO, hbw⟩ := hrel
  have hs := hbw.size
  by_cases hlt : k < len
  ·have hlt' : (k : Int) < (len : Int) := by omega
   have hvl := numL_le h k
   obtain ⟨b, off, rfl, -, c0, c1⟩ := (HC.out.below hbw).at hlt
   rcases Bool.eq_false_or_eq_true (h k).m with t1 | t1
   ·have HH : Hid (numL h (k + 1) = numL h k) := numL_not t1
    rw [t1] at c0
    go_wp2
    go_roundw
    case rel => exact ⟨k + 1, by omega, by go_num, (HO.out.below (by go_grown)).to HH.out, by go_grown⟩
    case measure => simp [intOf]; omega
   ·have HH : Hid (numL h (k + 1) = numL h k ++ [(h k).v]) := numL_hit t1
    rw [t1] at c0
    go_wp2_with (at_builtin; refine append_oneN _ (N := wr.heap.size + 1) (by simp) rfl _ _ rfl w.heap.size u3 (numL h k) rfl (HO.out.below (by go_grown)) (h k).v rfl (by omega) (by simp; omega) ?_; intro v' w4 o4 b4; have H4 : Hid (OwnI w4 w.heap.size v' (numL h (k + 1))) := o4.to HH.out; clear o4)
    go_roundw
    case rel => exact ⟨k + 1, by omega, by go_num, H4.out, Below.trans (by go_grown) b4⟩
    case measure => simp [intOf]; omega
  ·have hkl : k = len := by omega
   have H4 : Hid (OwnI wr w.heap.size u3 (numL h len)) := by
    have := HO.out
    rw [hkl] at this
    exact this
   clear HO hkl
   go_wp2
   go_ret
   exact ⟨_, rfl, H4.out, hbw⟩
open Go.ChangeShapes Go.WideShapes Go.ChangeAt
def mkI (k : Int) (i : Nat) : I5 := ⟨k + 5 * i, k + 5 * i + 1, k + 5 * i + 1 + 1, k + 5 * i + 1 + 1 + 1, k + 5 * i + 1 + 1 + 1 + 1⟩
def mkT (k : Int) (i : Nat) : I2 := ⟨(k + 2 * i) % 3 == 0, k + 2 * i + 1⟩
def mkEv (k : Int) (i : Nat) : E3 := ⟨k + 3 * i, k + 3 * i + 1, k + 3 * i + 1 + 1⟩
theorem flat_set2_ {f : Nat → List Value} {n i : Nat} (hl : ∀ j, j < n → (f j).length = 2) (hi : i < n) (a b : Value) :
  flat (fun j => if j = i then [a, b] else f j) n = ((flat f n).set (i * 2) a).set (i * 2 + 1) b := by
 have hl' : ∀ j, j < n → ((fun j => if j = i then [a, b] else f j) j).length = 2 := fun j hj => by
  by_cases e : j = i
  ·simp [e]
  ·simp [e, hl j hj]
 have n1 := flat_len hl
 have n2 := flat_len hl'
 apply List.ext_getElem?
 intro q
 by_cases hq : q < n * 2
 ·have hk : q / 2 < n := by omega
  have hr : q % 2 < 2 := by omega
  have e0 : q = q / 2 * 2 + q % 2 := by omega
  have e1 := flat_at hl' hk hr
  have e2 := flat_at hl hk hr
  rw [← e0] at e1 e2
  rw [e1]
  by_cases ei : q / 2 = i
  ·simp only [if_pos ei]
   have hrK : q % 2 = 0 ∨ q % 2 = 1 := by omega
   rcases hrK with h | h <;> rw [h] <;>
    (simp only [List.getElem?_set, List.length_set, n1]
     have : i < n := hi
     repeat (first | rw [if_pos (by omega)] | rw [if_neg (by omega)])
     simp)
  ·simp only [if_neg ei]
   simp only [List.getElem?_set, List.length_set, n1]
   repeat rw [if_neg (by omega)]
   rw [e2]
 ·rw [List.getElem?_eq_none (by omega), List.getElem?_eq_none (by simp only [List.length_set]; omega)]
theorem flat_set3_ {f : Nat → List Value} {n i : Nat} (hl : ∀ j, j < n → (f j).length = 3) (hi : i < n) (a b c : Value) :
  flat (fun j => if j = i then [a, b, c] else f j) n = (((flat f n).set (i * 3) a).set (i * 3 + 1) b).set (i * 3 + 2) c := by
 have hl' : ∀ j, j < n → ((fun j => if j = i then [a, b, c] else f j) j).length = 3 := fun j hj => by
  by_cases e : j = i
  ·simp [e]
  ·simp [e, hl j hj]
 have n1 := flat_len hl
 have n2 := flat_len hl'
 apply List.ext_getElem?
 intro q
 by_cases hq : q < n * 3
 ·have hk : q / 3 < n := by omega
  have hr : q % 3 < 3 := by omega
  have e0 : q = q / 3 * 3 + q % 3 := by omega
  have e1 := flat_at hl' hk hr
  have e2 := flat_at hl hk hr
  rw [← e0] at e1 e2
  rw [e1]
  by_cases ei : q / 3 = i
  ·simp only [if_pos ei]
   have hrK : q % 3 = 0 ∨ q % 3 = 1 ∨ q % 3 = 2 := by omega
   rcases hrK with h | h | h <;> rw [h] <;>
    (simp only [List.getElem?_set, List.length_set, n1]
     have : i < n := hi
     repeat (first | rw [if_pos (by omega)] | rw [if_neg (by omega)])
     simp)
  ·simp only [if_neg ei]
   simp only [List.getElem?_set, List.length_set, n1]
   repeat rw [if_neg (by omega)]
   rw [e2]
 ·rw [List.getElem?_eq_none (by omega), List.getElem?_eq_none (by simp only [List.length_set]; omega)]
theorem flat_set5_ {f : Nat → List Value} {n i : Nat} (hl : ∀ j, j < n → (f j).length = 5) (hi : i < n) (a b c d e : Value) :
  flat (fun j => if j = i then [a, b, c, d, e] else f j) n = (((((flat f n).set (i * 5) a).set (i * 5 + 1) b).set (i * 5 + 2) c).set (i * 5 + 3) d).set (i * 5 + 4) e := by
 have hl' : ∀ j, j < n → ((fun j => if j = i then [a, b, c, d, e] else f j) j).length = 5 := fun j hj => by
  by_cases e : j = i
  ·simp [e]
  ·simp [e, hl j hj]
 have n1 := flat_len hl
 have n2 := flat_len hl'
 apply List.ext_getElem?
 intro q
 by_cases hq : q < n * 5
 ·have hk : q / 5 < n := by omega
  have hr : q % 5 < 5 := by omega
  have e0 : q = q / 5 * 5 + q % 5 := by omega
  have e1 := flat_at hl' hk hr
  have e2 := flat_at hl hk hr
  rw [← e0] at e1 e2
  rw [e1]
  by_cases ei : q / 5 = i
  ·simp only [if_pos ei]
   have hrK : q % 5 = 0 ∨ q % 5 = 1 ∨ q % 5 = 2 ∨ q % 5 = 3 ∨ q % 5 = 4 := by omega
   rcases hrK with h | h | h | h | h <;> rw [h] <;>
    (simp only [List.getElem?_set, List.length_set, n1]
     have : i < n := hi
     repeat (first | rw [if_pos (by omega)] | rw [if_neg (by omega)])
     simp)
  ·simp only [if_neg ei]
   simp only [List.getElem?_set, List.length_set, n1]
   repeat rw [if_neg (by omega)]
   rw [e2]
 ·rw [List.getElem?_eq_none (by omega), List.getElem?_eq_none (by simp only [List.length_set]; omega)]
theorem markInsS_own (b n cap B : Nat) (h : Nat → I5) (k : Int) (w : World) (hlen : n ≤ 1048576) (k0 : 0 ≤ k) (k1 : k ≤ 100000000) (o : w.ownsRow B 60 5 (.slice (some ⟨b, 0, none⟩) n cap) n (fI h n)) :
  Calls Tryz.prog 33 #[.slice (some ⟨b, 0, none⟩) n cap, .int .i64 k] w fun e w' => e = .returned (.int .i64 (k + 5 * n)) ∧ w.grownBy w' (some b) ∧ w'.ownsRow B 60 5 (.slice (some ⟨b, 0, none⟩) n cap) n (fI (mkI k) n) := by
 have hl' : (n : Int) ≤ 1048576 := by omega
 have HO : Hid (w.ownsRow B 60 5 (.slice (some ⟨b, 0, none⟩) n cap) n (fI h n)) := o
 clear o
 go_enter Tryz.func33, Tryz.ntmps33
 go_wp2_with fail
 go_loopw [1, 5] (fun q i wr => ∃ j : Nat, j ≤ n ∧ i = .int .i64 j ∧ q = .int .i64 (k + 5 * j) ∧ Hid (wr.ownsRow B 60 5 (.slice (some ⟨b, 0, none⟩) n cap) n (flat (fun t => cI (if t < j then mkI k t else h t)) n) ∧ w.grownBy wr (some b))) (fun _ i _ => n - (intOf i).toNat)
 case atStart =>
  refine ⟨0, Nat.zero_le _, rfl, by simp, ?_, World.grownBy.refl _ _⟩
  have e : flat (fun t => cI (if t < 0 then mkI k t else h t)) n = fI h n := flat_congr fun t _ => by rw [if_neg (by omega)]
  rw [e]
  exact HO.out
 case round =>
  clear HO
  obtain ⟨j, hj, rfl, rfl, HR⟩ := hrel
  by_cases hlt : j < n
  ·have hlt' : (j : Int) < (n : Int) := by omega
   have hc : ∀ r, r < 5 → wr.cell? ⟨b, j * 5 + r, none⟩ = (cI (h j))[r]? := fun r hr => by
    rw [HR.out.1.cellAt _ (by omega)]
    have e := flat_at (sz := 5) (f := (fun t => cI (if t < j then mkI k t else h t))) (n := n) (fun _ _ => rfl) hlt hr
    rw [if_neg (by omega)] at e
    exact e
   have c0 := hc 0 (by omega)
   have c1 := hc 1 (by omega)
   have c2 := hc 2 (by omega)
   have c3 := hc 3 (by omega)
   have c4 := hc 4 (by omega)
   simp only [cI, Nat.add_zero, List.getElem?_cons_zero, List.getElem?_cons_succ] at c0 c1 c2 c3 c4
   have fz : ∀ o, wr.frozen? ⟨b, o, none⟩ = false := fun o => HR.out.1.frozenAt o
   clear hc
   go_wp2
   go_roundw
   case rel =>
    refine ⟨j + 1, by omega, by go_num, by go_num, ?_, ?_⟩
    ·have e : flat (fun t => cI (if t < j + 1 then mkI k t else h t)) n = flat (fun t => if t = j then cI (mkI k j) else (fun t => cI (if t < j then mkI k t else h t)) t) n := flat_congr fun t _ => by
      by_cases e : t = j
      ·rw [if_pos e, if_pos (by omega), e]
      ·rw [if_neg e]
       show cI (if t < j + 1 then mkI k t else h t) = cI (if t < j then mkI k t else h t)
       by_cases e2 : t < j
       ·rw [if_pos e2, if_pos (by omega)]
       ·rw [if_neg e2, if_neg (by omega)]
     have e2 := flat_set5_ (f := (fun t => cI (if t < j then mkI k t else h t))) (n := n) (i := j) (fun _ _ => rfl) hlt (.int .i64 (k + 5 * (j : Int))) (.int .i64 (k + 5 * (j : Int) + 1)) (.int .i64 (k + 5 * (j : Int) + 1 + 1)) (.int .i64 (k + 5 * (j : Int) + 1 + 1 + 1)) (.int .i64 (k + 5 * (j : Int) + 1 + 1 + 1 + 1))
     rw [e]
     refine Eq.mpr (congrArg (fun l => World.ownsRow _ B 60 5 (.slice (some ⟨b, 0, none⟩) n cap) n l) e2) ?_
     exact (World.ownsRow.stored (World.ownsRow.stored (World.ownsRow.stored (World.ownsRow.stored (World.ownsRow.stored HR.out.1 (j * 5) (.int .i64 (k + 5 * (j : Int)))).1 (j * 5 + 1) (.int .i64 (k + 5 * (j : Int) + 1))).1 (j * 5 + 2) (.int .i64 (k + 5 * (j : Int) + 1 + 1))).1 (j * 5 + 3) (.int .i64 (k + 5 * (j : Int) + 1 + 1 + 1))).1 (j * 5 + 4) (.int .i64 (k + 5 * (j : Int) + 1 + 1 + 1 + 1))).1
    ·repeat (refine grown_setCell ?_ (.inl rfl) _)
     exact HR.out.2
   case measure => simp [intOf]; omega
  ·have hjl : j = n := by omega
   subst hjl
   have HF : Hid (w.grownBy wr (some b) ∧ wr.ownsRow B 60 5 (.slice (some ⟨b, 0, none⟩) j cap) j (fI (mkI k) j)) := by
    refine ⟨HR.out.2, ?_⟩
    have e : flat (fun t => cI (if t < j then mkI k t else h t)) j = fI (mkI k) j := flat_congr fun t ht => by rw [if_pos ht]
    have := HR.out.1
    rw [e] at this
    exact this
   clear HR
   go_wp2
   go_ret
   exact ⟨rfl, HF.out⟩
theorem heldInsS_own (b n cap : Nat) (k : Int) (w : World) (hlen : n ≤ 1048576) (k0 : 0 ≤ k) (k1 : k ≤ 100000000) (hb : b < w.heap.size) (h : InsAt w b 0 n (mkI k)) :
  Calls Tryz.prog 78 #[.slice (some ⟨b, 0, none⟩) n cap, .int .i64 k] w fun e w' => e = .returned (.int .i64 (k + 5 * n)) ∧ Below w.heap.size w w' := by
 have hl' : (n : Int) ≤ 1048576 := by omega
 have HO : Hid (InsAt w b 0 n (mkI k) ∧ b < w.heap.size) := ⟨h, hb⟩
 clear h hb
 go_enter Tryz.func78, Tryz.ntmps78
 go_wp2_with fail
 go_loopw [1, 5] (fun q i wr => ∃ j : Nat, j ≤ n ∧ i = .int .i64 j ∧ q = .int .i64 (k + 5 * j) ∧ Below w.heap.size w wr) (fun _ i _ => n - (intOf i).toNat)
 case atStart => exact ⟨0, Nat.zero_le _, rfl, by simp, Below.refl _ _⟩
 case round =>
  obtain ⟨j, hj, rfl, rfl, hbw⟩ := hrel
  by_cases hlt : j < n
  ·have hlt' : (j : Int) < (n : Int) := by omega
   obtain ⟨d0, d1, d2, d3, d4⟩ := HO.out.1 j hlt
   have c0 : wr.cell? ⟨b, j * 5, none⟩ = some (.int .i64 (k + 5 * (j : Int))) := (hbw.cell (p := ⟨b, j * 5, none⟩) HO.out.2).trans (by have d := d0; rw [Nat.zero_add] at d; exact d)
   have c1 : wr.cell? ⟨b, j * 5 + 1, none⟩ = some (.int .i64 (k + 5 * (j : Int) + 1)) := (hbw.cell (p := ⟨b, j * 5 + 1, none⟩) HO.out.2).trans (by have d := d1; rw [Nat.zero_add] at d; exact d)
   have c2 : wr.cell? ⟨b, j * 5 + 2, none⟩ = some (.int .i64 (k + 5 * (j : Int) + 1 + 1)) := (hbw.cell (p := ⟨b, j * 5 + 2, none⟩) HO.out.2).trans (by have d := d2; rw [Nat.zero_add] at d; exact d)
   have c3 : wr.cell? ⟨b, j * 5 + 3, none⟩ = some (.int .i64 (k + 5 * (j : Int) + 1 + 1 + 1)) := (hbw.cell (p := ⟨b, j * 5 + 3, none⟩) HO.out.2).trans (by have d := d3; rw [Nat.zero_add] at d; exact d)
   have c4 : wr.cell? ⟨b, j * 5 + 4, none⟩ = some (.int .i64 (k + 5 * (j : Int) + 1 + 1 + 1 + 1)) := (hbw.cell (p := ⟨b, j * 5 + 4, none⟩) HO.out.2).trans (by have d := d4; rw [Nat.zero_add] at d; exact d)
   clear d0 d1 d2 d3 d4
   go_wp2
   go_roundw
   case rel => exact ⟨j + 1, by omega, by go_num, by go_num, hbw⟩
   case measure => simp [intOf]; omega
  ·have hjl : j = n := by omega
   subst hjl
   go_wp2
   go_ret
   exact ⟨rfl, hbw⟩
theorem markItemS_own (b n cap B : Nat) (h : Nat → I2) (k : Int) (w : World) (hlen : n ≤ 1048576) (k0 : 0 ≤ k) (k1 : k ≤ 100000000) (o : w.ownsRow B 122 2 (.slice (some ⟨b, 0, none⟩) n cap) n (fT h n)) :
  Calls Tryz.prog 76 #[.slice (some ⟨b, 0, none⟩) n cap, .int .i64 k] w fun e w' => e = .returned (.int .i64 (k + 2 * n)) ∧ w.grownBy w' (some b) ∧ w'.ownsRow B 122 2 (.slice (some ⟨b, 0, none⟩) n cap) n (fT (mkT k) n) := by
 have hl' : (n : Int) ≤ 1048576 := by omega
 have HO : Hid (w.ownsRow B 122 2 (.slice (some ⟨b, 0, none⟩) n cap) n (fT h n)) := o
 clear o
 go_enter Tryz.func76, Tryz.ntmps76
 go_wp2_with fail
 go_loopw [1, 5] (fun q i wr => ∃ j : Nat, j ≤ n ∧ i = .int .i64 j ∧ q = .int .i64 (k + 2 * j) ∧ Hid (wr.ownsRow B 122 2 (.slice (some ⟨b, 0, none⟩) n cap) n (flat (fun t => cT (if t < j then mkT k t else h t)) n) ∧ w.grownBy wr (some b))) (fun _ i _ => n - (intOf i).toNat)
 case atStart =>
  refine ⟨0, Nat.zero_le _, rfl, by simp, ?_, World.grownBy.refl _ _⟩
  have e : flat (fun t => cT (if t < 0 then mkT k t else h t)) n = fT h n := flat_congr fun t _ => by rw [if_neg (by omega)]
  rw [e]
  exact HO.out
 case round =>
  clear HO
  obtain ⟨j, hj, rfl, rfl, HR⟩ := hrel
  by_cases hlt : j < n
  ·have hlt' : (j : Int) < (n : Int) := by omega
   have hc : ∀ r, r < 2 → wr.cell? ⟨b, j * 2 + r, none⟩ = (cT (h j))[r]? := fun r hr => by
    rw [HR.out.1.cellAt _ (by omega)]
    have e := flat_at (sz := 2) (f := (fun t => cT (if t < j then mkT k t else h t))) (n := n) (fun _ _ => rfl) hlt hr
    rw [if_neg (by omega)] at e
    exact e
   have c0 := hc 0 (by omega)
   have c1 := hc 1 (by omega)
   simp only [cT, Nat.add_zero, List.getElem?_cons_zero, List.getElem?_cons_succ] at c0 c1
   have fz : ∀ o, wr.frozen? ⟨b, o, none⟩ = false := fun o => HR.out.1.frozenAt o
   clear hc
   go_wp2
   go_roundw
   case rel =>
    refine ⟨j + 1, by omega, by go_num, by go_num, ?_, ?_⟩
    ·have e : flat (fun t => cT (if t < j + 1 then mkT k t else h t)) n = flat (fun t => if t = j then cT (mkT k j) else (fun t => cT (if t < j then mkT k t else h t)) t) n := flat_congr fun t _ => by
      by_cases e : t = j
      ·rw [if_pos e, if_pos (by omega), e]
      ·rw [if_neg e]
       show cT (if t < j + 1 then mkT k t else h t) = cT (if t < j then mkT k t else h t)
       by_cases e2 : t < j
       ·rw [if_pos e2, if_pos (by omega)]
       ·rw [if_neg e2, if_neg (by omega)]
     have e2 := flat_set2_ (f := (fun t => cT (if t < j then mkT k t else h t))) (n := n) (i := j) (fun _ _ => rfl) hlt (.bool ((k + 2 * (j : Int)) % 3 == 0)) (.int .i64 (k + 2 * (j : Int) + 1))
     rw [e]
     refine Eq.mpr (congrArg (fun l => World.ownsRow _ B 122 2 (.slice (some ⟨b, 0, none⟩) n cap) n l) e2) ?_
     exact (World.ownsRow.stored (World.ownsRow.stored HR.out.1 (j * 2) (.bool ((k + 2 * (j : Int)) % 3 == 0))).1 (j * 2 + 1) (.int .i64 (k + 2 * (j : Int) + 1))).1
    ·repeat (refine grown_setCell ?_ (.inl rfl) _)
     exact HR.out.2
   case measure => simp [intOf]; omega
  ·have hjl : j = n := by omega
   subst hjl
   have HF : Hid (w.grownBy wr (some b) ∧ wr.ownsRow B 122 2 (.slice (some ⟨b, 0, none⟩) j cap) j (fT (mkT k) j)) := by
    refine ⟨HR.out.2, ?_⟩
    have e : flat (fun t => cT (if t < j then mkT k t else h t)) j = fT (mkT k) j := flat_congr fun t ht => by rw [if_pos ht]
    have := HR.out.1
    rw [e] at this
    exact this
   clear HR
   go_wp2
   go_ret
   exact ⟨rfl, HF.out⟩
theorem heldItemS_own (b n cap : Nat) (k : Int) (w : World) (hlen : n ≤ 1048576) (k0 : 0 ≤ k) (k1 : k ≤ 100000000) (hb : b < w.heap.size) (h : ItAt w b 0 n (mkT k)) :
  Calls Tryz.prog 80 #[.slice (some ⟨b, 0, none⟩) n cap, .int .i64 k] w fun e w' => e = .returned (.int .i64 (k + 2 * n)) ∧ Below w.heap.size w w' := by
 have hl' : (n : Int) ≤ 1048576 := by omega
 have HO : Hid (ItAt w b 0 n (mkT k) ∧ b < w.heap.size) := ⟨h, hb⟩
 clear h hb
 go_enter Tryz.func80, Tryz.ntmps80
 go_wp2_with fail
 go_loopw [1, 5] (fun q i wr => ∃ j : Nat, j ≤ n ∧ i = .int .i64 j ∧ q = .int .i64 (k + 2 * j) ∧ Below w.heap.size w wr) (fun _ i _ => n - (intOf i).toNat)
 case atStart => exact ⟨0, Nat.zero_le _, rfl, by simp, Below.refl _ _⟩
 case round =>
  obtain ⟨j, hj, rfl, rfl, hbw⟩ := hrel
  by_cases hlt : j < n
  ·have hlt' : (j : Int) < (n : Int) := by omega
   obtain ⟨d0, d1⟩ := HO.out.1 j hlt
   have c0 : wr.cell? ⟨b, j * 2, none⟩ = some (.bool ((k + 2 * (j : Int)) % 3 == 0)) := (hbw.cell (p := ⟨b, j * 2, none⟩) HO.out.2).trans (by have d := d0; rw [Nat.zero_add] at d; exact d)
   have c1 : wr.cell? ⟨b, j * 2 + 1, none⟩ = some (.int .i64 (k + 2 * (j : Int) + 1)) := (hbw.cell (p := ⟨b, j * 2 + 1, none⟩) HO.out.2).trans (by have d := d1; rw [Nat.zero_add] at d; exact d)
   clear d0 d1
   rcases Bool.eq_false_or_eq_true ((k + 2 * (j : Int)) % 3 == 0) with t | t
   ·rw [t] at c0
    go_wp2_with fail
    exact ⟨⟨j + 1, by omega, by go_num, by go_num, hbw⟩, by simp [intOf]; omega⟩
   ·rw [t] at c0
    go_wp2_with fail
    exact ⟨⟨j + 1, by omega, by go_num, by go_num, hbw⟩, by simp [intOf]; omega⟩
  ·have hjl : j = n := by omega
   subst hjl
   go_wp2
   go_ret
   exact ⟨rfl, hbw⟩
theorem markEventS_own (b n cap B : Nat) (h : Nat → E3) (k : Int) (w : World) (hlen : n ≤ 1048576) (k0 : 0 ≤ k) (k1 : k ≤ 100000000) (o : w.ownsRow B 77 3 (.slice (some ⟨b, 0, none⟩) n cap) n (fE h n)) :
  Calls Tryz.prog 77 #[.slice (some ⟨b, 0, none⟩) n cap, .int .i64 k] w fun e w' => e = .returned (.int .i64 (k + 3 * n)) ∧ w.grownBy w' (some b) ∧ w'.ownsRow B 77 3 (.slice (some ⟨b, 0, none⟩) n cap) n (fE (mkEv k) n) := by
 have hl' : (n : Int) ≤ 1048576 := by omega
 have HO : Hid (w.ownsRow B 77 3 (.slice (some ⟨b, 0, none⟩) n cap) n (fE h n)) := o
 clear o
 go_enter Tryz.func77, Tryz.ntmps77
 go_wp2_with fail
 go_loopw [1, 5] (fun q i wr => ∃ j : Nat, j ≤ n ∧ i = .int .i64 j ∧ q = .int .i64 (k + 3 * j) ∧ Hid (wr.ownsRow B 77 3 (.slice (some ⟨b, 0, none⟩) n cap) n (flat (fun t => cE (if t < j then mkEv k t else h t)) n) ∧ w.grownBy wr (some b))) (fun _ i _ => n - (intOf i).toNat)
 case atStart =>
  refine ⟨0, Nat.zero_le _, rfl, by simp, ?_, World.grownBy.refl _ _⟩
  have e : flat (fun t => cE (if t < 0 then mkEv k t else h t)) n = fE h n := flat_congr fun t _ => by rw [if_neg (by omega)]
  rw [e]
  exact HO.out
 case round =>
  clear HO
  obtain ⟨j, hj, rfl, rfl, HR⟩ := hrel
  by_cases hlt : j < n
  ·have hlt' : (j : Int) < (n : Int) := by omega
   have hc : ∀ r, r < 3 → wr.cell? ⟨b, j * 3 + r, none⟩ = (cE (h j))[r]? := fun r hr => by
    rw [HR.out.1.cellAt _ (by omega)]
    have e := flat_at (sz := 3) (f := (fun t => cE (if t < j then mkEv k t else h t))) (n := n) (fun _ _ => rfl) hlt hr
    rw [if_neg (by omega)] at e
    exact e
   have c0 := hc 0 (by omega)
   have c1 := hc 1 (by omega)
   have c2 := hc 2 (by omega)
   simp only [cE, Nat.add_zero, List.getElem?_cons_zero, List.getElem?_cons_succ] at c0 c1 c2
   have fz : ∀ o, wr.frozen? ⟨b, o, none⟩ = false := fun o => HR.out.1.frozenAt o
   clear hc
   go_wp2
   go_roundw
   case rel =>
    refine ⟨j + 1, by omega, by go_num, by go_num, ?_, ?_⟩
    ·have e : flat (fun t => cE (if t < j + 1 then mkEv k t else h t)) n = flat (fun t => if t = j then cE (mkEv k j) else (fun t => cE (if t < j then mkEv k t else h t)) t) n := flat_congr fun t _ => by
      by_cases e : t = j
      ·rw [if_pos e, if_pos (by omega), e]
      ·rw [if_neg e]
       show cE (if t < j + 1 then mkEv k t else h t) = cE (if t < j then mkEv k t else h t)
       by_cases e2 : t < j
       ·rw [if_pos e2, if_pos (by omega)]
       ·rw [if_neg e2, if_neg (by omega)]
     have e2 := flat_set3_ (f := (fun t => cE (if t < j then mkEv k t else h t))) (n := n) (i := j) (fun _ _ => rfl) hlt (.int .i64 (k + 3 * (j : Int))) (.int .i64 (k + 3 * (j : Int) + 1)) (.int .i64 (k + 3 * (j : Int) + 1 + 1))
     rw [e]
     refine Eq.mpr (congrArg (fun l => World.ownsRow _ B 77 3 (.slice (some ⟨b, 0, none⟩) n cap) n l) e2) ?_
     exact (World.ownsRow.stored (World.ownsRow.stored (World.ownsRow.stored HR.out.1 (j * 3) (.int .i64 (k + 3 * (j : Int)))).1 (j * 3 + 1) (.int .i64 (k + 3 * (j : Int) + 1))).1 (j * 3 + 2) (.int .i64 (k + 3 * (j : Int) + 1 + 1))).1
    ·repeat (refine grown_setCell ?_ (.inl rfl) _)
     exact HR.out.2
   case measure => simp [intOf]; omega
  ·have hjl : j = n := by omega
   subst hjl
   have HF : Hid (w.grownBy wr (some b) ∧ wr.ownsRow B 77 3 (.slice (some ⟨b, 0, none⟩) j cap) j (fE (mkEv k) j)) := by
    refine ⟨HR.out.2, ?_⟩
    have e : flat (fun t => cE (if t < j then mkEv k t else h t)) j = fE (mkEv k) j := flat_congr fun t ht => by rw [if_pos ht]
    have := HR.out.1
    rw [e] at this
    exact this
   clear HR
   go_wp2
   go_ret
   exact ⟨rfl, HF.out⟩
theorem heldEventS_own (b n cap : Nat) (k : Int) (w : World) (hlen : n ≤ 1048576) (k0 : 0 ≤ k) (k1 : k ≤ 100000000) (hb : b < w.heap.size) (h : EvAt w b 0 n (mkEv k)) :
  Calls Tryz.prog 81 #[.slice (some ⟨b, 0, none⟩) n cap, .int .i64 k] w fun e w' => e = .returned (.int .i64 (k + 3 * n)) ∧ Below w.heap.size w w' := by
 have hl' : (n : Int) ≤ 1048576 := by omega
 have HO : Hid (EvAt w b 0 n (mkEv k) ∧ b < w.heap.size) := ⟨h, hb⟩
 clear h hb
 go_enter Tryz.func81, Tryz.ntmps81
 go_wp2_with fail
 go_loopw [1, 5] (fun q i wr => ∃ j : Nat, j ≤ n ∧ i = .int .i64 j ∧ q = .int .i64 (k + 3 * j) ∧ Below w.heap.size w wr) (fun _ i _ => n - (intOf i).toNat)
 case atStart => exact ⟨0, Nat.zero_le _, rfl, by simp, Below.refl _ _⟩
 case round =>
  obtain ⟨j, hj, rfl, rfl, hbw⟩ := hrel
  by_cases hlt : j < n
  ·have hlt' : (j : Int) < (n : Int) := by omega
   obtain ⟨d0, d1, d2⟩ := HO.out.1 j hlt
   have c0 : wr.cell? ⟨b, j * 3, none⟩ = some (.int .i64 (k + 3 * (j : Int))) := (hbw.cell (p := ⟨b, j * 3, none⟩) HO.out.2).trans (by have d := d0; rw [Nat.zero_add] at d; exact d)
   have c1 : wr.cell? ⟨b, j * 3 + 1, none⟩ = some (.int .i64 (k + 3 * (j : Int) + 1)) := (hbw.cell (p := ⟨b, j * 3 + 1, none⟩) HO.out.2).trans (by have d := d1; rw [Nat.zero_add] at d; exact d)
   have c2 : wr.cell? ⟨b, j * 3 + 2, none⟩ = some (.int .i64 (k + 3 * (j : Int) + 1 + 1)) := (hbw.cell (p := ⟨b, j * 3 + 2, none⟩) HO.out.2).trans (by have d := d2; rw [Nat.zero_add] at d; exact d)
   clear d0 d1 d2
   go_wp2
   go_roundw
   case rel => exact ⟨j + 1, by omega, by go_num, by go_num, hbw⟩
   case measure => simp [intOf]; omega
  ·have hjl : j = n := by omega
   subst hjl
   go_wp2
   go_ret
   exact ⟨rfl, hbw⟩
end Go.Proofs.YtdigofhceahpdaaGreatDoor
