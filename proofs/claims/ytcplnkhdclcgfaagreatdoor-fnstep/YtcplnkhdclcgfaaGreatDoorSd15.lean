/- The walks of l1DrawAny, DrawProgOk and DrawInsOk. -/
import Derived.Test.YtcplnkhdclcgfaaGreatDoorSd0
import Derived.Test.YtcplnkhdclcgfaaGreatDoorSd11
import Derived.Test.YtcplnkhdclcgfaaGreatDoorSd12
import Derived.Test.YtcplnkhdclcgfaaGreatDoorSd13
import Derived.Test.YtcplnkhdclcgfaaGreatDoorSd14
import Derived.Deep.RegionWith
namespace Go.Proofs.YtcplnkhdclcgfaaGreatDoor
set_option maxRecDepth 100000
set_option maxHeartbeats 4000000
open Go.RowKit Go.Deep
def CopiesF (w : World) (a0 : Option Addr) (len cap : Nat) (g : Nat -> I5) : Prop := ∀ wx, Below w.heap.size w wx ->
 Calls Tryz.prog 141 #[.slice a0 len cap] wx fun e w' => e = .returned (.slice (some ⟨wx.heap.size, 0, none⟩) len len) /\ InsAt w' wx.heap.size 0 len g /\ wx.heap.size < w'.heap.size /\ Below wx.heap.size wx w' /\ ∀ j, w'.frozen? ⟨wx.heap.size, j, none⟩ = false
def Room (w : World) (b len : Nat) : Prop := (∀ i, i < len * 5 -> ∃ u, w.cell? ⟨b, i, none⟩ = some u) /\ ∀ j, w.frozen? ⟨b, j, none⟩ = false
theorem canCome_any (nk np nv k q v : Int) (w : World) :
  Calls Tryz.prog 184 #[evV nk np nv, evV k q v] w fun e w' => e = .returned (.bool (canB nk np nv k q v)) /\ Below w.heap.size w w' := by
 have he := fun wx => eql_ev k q v nk np nv wx
 by_cases c1 : nk = 3
 case neg =>
  have c1' : (nk != 3) = true := by simpa using c1
  by_cases c2 : nk = 0
  ·subst c2
   have hv : Hid (canB 0 np nv k q v = false) := by simp [Hid, canB]
   go_enter Tryz.func184, Tryz.ntmps184
   go_wp2_with (first | (go_at_call 223; refine (isNum_any _ _).mono ?_; rintro e w' ⟨rfl, rfl⟩) | (go_at_call 86; refine (isBelow_any _ _ _).mono ?_; rintro e w' ⟨rfl, rfl⟩))
   refine bodyPost_ret (v := .bool (false)) (by simp [results, Tryz.results184, go_sem]) rfl ⟨by rw [hv.out], ?_⟩
   go_grown
  ·have c2' : (nk != 0) = true := by simpa using c2
   have hv : Hid (canB nk np nv k q v = evEqB k q v nk np nv) := by simp [Hid, canB, evEqB, c1, c2']
   clear c1 c2
   go_enter Tryz.func184, Tryz.ntmps184
   go_wp2_with (first | (go_at_call 223; refine (isNum_any _ _).mono ?_; rintro e w' ⟨rfl, rfl⟩) | (go_at_call 86; refine (isBelow_any _ _ _).mono ?_; rintro e w' ⟨rfl, rfl⟩))
   refine bodyPost_ret (v := .bool (evEqB k q v nk np nv)) (by simp [results, Tryz.results184, go_sem]) rfl ⟨by rw [hv.out], ?_⟩
   go_grown
 subst c1
 by_cases c2 : k = 3
 case neg =>
  have c2' : (k != 3) = true := by simpa using c2
  have hv : Hid (canB 3 np nv k q v = false) := by simp [Hid, canB, c2]
  clear c2
  go_enter Tryz.func184, Tryz.ntmps184
  go_wp2_with (first | (go_at_call 223; refine (isNum_any _ _).mono ?_; rintro e w' ⟨rfl, rfl⟩) | (go_at_call 86; refine (isBelow_any _ _ _).mono ?_; rintro e w' ⟨rfl, rfl⟩))
  refine bodyPost_ret (v := .bool (false)) (by simp [results, Tryz.results184, go_sem]) rfl ⟨by rw [hv.out], ?_⟩
  go_grown
 subst c2
 rcases zK (numB v) with c3 | c3
 case inr =>
  have hv : Hid (canB 3 np nv 3 q v = false) := by simp [Hid, canB, c3]
  have c3' : inB v (-1000000000) 1000000000 = false := c3
  clear c3
  go_enter Tryz.func184, Tryz.ntmps184
  go_wp2_with (first | (go_at_call 223; refine (isNum_any _ _).mono ?_; rintro e w' ⟨rfl, rfl⟩) | (go_at_call 86; refine (isBelow_any _ _ _).mono ?_; rintro e w' ⟨rfl, rfl⟩))
  refine bodyPost_ret (v := .bool (false)) (by simp [results, Tryz.results184, go_sem]) rfl ⟨by rw [hv.out], ?_⟩
  go_grown
 by_cases c4 : np = 9
 ·subst c4
  have hv : Hid (canB 3 9 nv 3 q v = belB q 4) := by simp [Hid, canB, c3]
  have c3' : inB v (-1000000000) 1000000000 = true := c3
  clear c3
  go_enter Tryz.func184, Tryz.ntmps184
  go_wp2_with (first | (go_at_call 223; refine (isNum_any _ _).mono ?_; rintro e w' ⟨rfl, rfl⟩) | (go_at_call 86; refine (isBelow_any _ _ _).mono ?_; rintro e w' ⟨rfl, rfl⟩))
  refine bodyPost_ret (v := .bool (belB q 4)) (by simp [results, Tryz.results184, go_sem]) rfl ⟨by rw [hv.out], ?_⟩
  go_grown
 ·have c4' : (np == 9) = false := by simpa using c4
  have hv : Hid (canB 3 np nv 3 q v = (q == np)) := by simp [Hid, canB, c3, c4]
  have c3' : inB v (-1000000000) 1000000000 = true := c3
  clear c3 c4
  go_enter Tryz.func184, Tryz.ntmps184
  go_wp2_with (first | (go_at_call 223; refine (isNum_any _ _).mono ?_; rintro e w' ⟨rfl, rfl⟩) | (go_at_call 86; refine (isBelow_any _ _ _).mono ?_; rintro e w' ⟨rfl, rfl⟩))
  refine bodyPost_ret (v := .bool (q == np)) (by simp [results, Tryz.results184, go_sem]) rfl ⟨by rw [hv.out], ?_⟩
  go_grown
def lenV : Value -> Nat
 | .slice _ n _ => n
 | _ => 0
theorem Lst.frozen {w : World} {B n g cap : Nat} (h : Lst w B (.slice (some ⟨g, 0, none⟩) n cap) n) (j : Nat) : w.frozen? ⟨g, j, none⟩ = false := by
 obtain ⟨xs, ho, hx⟩ := h
 exact ho.frozenAt j
def Way (w wr : World) (W0 c len cap : Nat) (a0 : Option Addr) (g n gc : Nat) : Prop :=
 Lst wr w.heap.size (.slice (some ⟨g, 0, none⟩) n gc) n /\ Cur wr W0 c a0 len cap /\ w.grownBy wr (some c)
theorem Way.step {w wr w' : World} {W0 c len cap g n gc : Nat} {a0 : Option Addr} (h : Way w wr W0 c len cap a0 g n gc) (hcl : c < w.heap.size) (hc : Cur w' W0 c a0 len cap) (hg : wr.grownBy w' (some c)) : Way w w' W0 c len cap a0 g n gc :=
 ⟨h.1.kept hg (fun j hj => by cases hj; exact hcl), hc, h.2.2.trans hg⟩
theorem Way.set {w wr : World} {W0 c len cap g n gc : Nat} {a0 : Option Addr} (h : Way w wr W0 c len cap a0 g n gc) (hcl : c < w.heap.size) (hcg : W0 <= c) (j : Nat) (x : Int) : Way w (wr.setCell ⟨g, j, none⟩ (.int .i64 x)) W0 c len cap a0 g n gc := by
 have hg := h.1.own g rfl
 exact ⟨h.1.set j x, h.2.1.setOther (p := ⟨g, j, none⟩) (by simp; omega) (by simp; omega) _, zV (p := ⟨g, j, none⟩) h.2.2 (.inr hg) _⟩
theorem l1DrawAny_any (W0 c len cap : Nat) (a0 : Option Addr) (w : World) (hc : Cur w W0 c a0 len cap) :
  Calls Tryz.prog 96 #[.pointer (some ⟨c, 0, none⟩)] w fun e w' => ∃ g n gc : Nat, e = .returned (.slice (some ⟨g, 0, none⟩) n gc) /\ n <= 31 /\ Way w w' W0 c len cap a0 g n gc := by
 have HC0 : Hid (Cur w W0 c a0 len cap) := hc
 have hcl := hc.lt
 have hcg := hc.ge
 clear hc
 go_enter Tryz.func96, Tryz.ntmps96
 go_wp2_with fail
 refine (zY W0 c len cap a0 _ _ HC0.out (by omega) (by omega)).mono ?_
 rintro e w1 ⟨me, rfl, ⟨m0, m1⟩, hc1, hg1⟩
 have HC1 : Hid (Cur w1 W0 c a0 len cap) := hc1
 have HG1 : Hid (w.grownBy w1 (some c)) := hg1
 have hs1 := hg1.size
 clear hc1 hg1 HC0
 go_wp2_with fail
 refine (l1DrawProg_any W0 c len cap a0 _ _ HC1.out m0 m1).mono ?_
 rintro e w2 ⟨v, n, rfl, ⟨n0, n1⟩, hl2, hc2, hg2⟩
 have hvf : ∃ g gc, v = .slice (some ⟨g, 0, none⟩) n gc /\ w1.heap.size <= g /\ g < w2.heap.size := hl2.form (by omega)
 obtain ⟨g, gc, hv, hgB, hgl⟩ := hvf
 rw [hv]
 rw [hv] at hl2
 have HW2 : Hid (Way w w2 W0 c len cap a0 g n gc) := ⟨hl2.mono hs1, hc2, HG1.out.trans hg2⟩
 have n0' : (1 : Int) <= (n : Int) := by omega
 have n1' : (n : Int) <= 11 := by omega
 clear hl2 hc2 hg2 HC1 HG1 hv hs1
 go_wp2_with fail
 refine (l1Once_any W0 c len cap a0 _ _ HW2.out.2.1 (by omega) (by omega)).mono ?_
 rintro e w3 ⟨t, rfl, hc3, hg3⟩
 have HW3 : Hid (Way w w3 W0 c len cap a0 g n gc) := HW2.out.step hcl hc3 hg3
 clear hc3 hg3 HW2
 cases t
 case true =>
  go_wp2_with fail
  refine (zY W0 c len cap a0 _ _ HW3.out.2.1 n0' (by omega)).mono ?_
  rintro e w4 ⟨x, rfl, ⟨x0, x1⟩, hc4, hg4⟩
  obtain ⟨k, rfl⟩ := Int.eq_ofNat_of_zero_le x0
  have hk : k < n := by omega
  have HW4 : Hid (Way w w4 W0 c len cap a0 g n gc) := HW3.out.step hcl hc4 hg4
  obtain ⟨G, hG⟩ := HW4.out.1.at
  obtain ⟨c0, c1, c2, c3, c4⟩ := hG k hk
  rw [Nat.zero_add] at c0 c1 c2 c3 c4
  clear hc4 hg4 HW3 hG
  go_wp2_with fail
  refine (l1Spoil_any W0 c len cap a0 _ _ _ _ _ _ HW4.out.2.1).mono ?_
  rintro e w5 ⟨o, r, a, b, nn, rfl, hc5, hg5⟩
  have HW5 : Hid (Way w w5 W0 c len cap a0 g n gc) := HW4.out.step hcl hc5 hg5
  obtain ⟨G5, hG5⟩ := HW5.out.1.at
  obtain ⟨d0, d1, d2, d3, d4⟩ := hG5 k hk
  rw [Nat.zero_add] at d0 d1 d2 d3 d4
  have f0 := HW5.out.1.frozen (k * 5)
  have f1 := HW5.out.1.frozen (k * 5 + 1)
  have f2 := HW5.out.1.frozen (k * 5 + 2)
  have f3 := HW5.out.1.frozen (k * 5 + 3)
  have f4 := HW5.out.1.frozen (k * 5 + 4)
  clear hc5 hg5 HW4 hG5 c0 c1 c2 c3 c4
  have HW6 : Hid (Way w (((((w5.setCell ⟨g, k * 5, none⟩ (.int .i64 o)).setCell ⟨g, k * 5 + 1, none⟩ (.int .i64 r)).setCell ⟨g, k * 5 + 2, none⟩ (.int .i64 a)).setCell ⟨g, k * 5 + 3, none⟩ (.int .i64 b)).setCell ⟨g, k * 5 + 4, none⟩ (.int .i64 nn)) W0 c len cap a0 g n gc) :=
   ((((HW5.out.set hcl hcg _ _).set hcl hcg _ _).set hcl hcg _ _).set hcl hcg _ _).set hcl hcg _ _
  go_wp2_with fail
  refine (l1Once_any W0 c len cap a0 _ _ HW6.out.2.1 (by omega) (by omega)).mono ?_
  rintro e w7 ⟨t, rfl, hc7, hg7⟩
  have HW7 : Hid (Way w w7 W0 c len cap a0 g n gc) := HW6.out.step hcl hc7 hg7
  clear hc7 hg7 HW6 HW5 d0 d1 d2 d3 d4 f0 f1 f2 f3 f4
  cases t
  case false =>
   go_wp2
   go_ret
   exact ⟨g, n, gc, rfl, by omega, HW7.out⟩
  case true =>
   go_wp2_with fail
   go_loopw [3] (fun l wr => ∃ m g' gc' : Nat, (1 <= m /\ m <= 31) /\ l = .slice (some ⟨g', 0, none⟩) m gc' /\ Hid (Way w wr W0 c len cap a0 g' m gc')) (fun l _ => 32 - lenV l)
   case atStart => exact ⟨n, g, gc, by omega, rfl, HW7⟩
   case round =>
    obtain ⟨m, g', gc', ⟨m0, m1⟩, rfl, HR⟩ := hrel
    go_wp2_with fail
    refine (zY W0 c len cap a0 _ _ HR.out.2.1 (by omega) (by omega)).mono ?_
    rintro e w8 ⟨y, rfl, ⟨y0, y1⟩, hc8, hg8⟩
    have HW8 : Hid (Way w w8 W0 c len cap a0 g' m gc') := HR.out.step hcl hc8 hg8
    have hs8 := HW8.out.2.2.size
    clear hc8 hg8 HR
    by_cases hlt : (m : Int) < 30 + y
    ·go_wp2_with (at_builtin; refine append_ins w8 rfl _ _ rfl w.heap.size (.slice (some ⟨g', 0, none⟩) m gc') m rfl HW8.out.1 11 0 0 0 0 rfl (by omega) hs8 ?_; intro v' w9 hl9 hg9; have HC9 : Hid (Cur w9 W0 c a0 len cap /\ w.grownBy w9 (some c)) := ⟨Lst.cur HW8.out.1 HW8.out.2.1 hg9 hcl hcg, (HW8.out.2.2.trans (World.grownBy_alloc _ _ _)).andThen hg9 (fun j hj => .inl (HW8.out.1.own j hj))⟩; obtain ⟨g9, c9, hv9, _, _⟩ := hl9.form (by omega); rw [hv9]; rw [hv9] at hl9; have HL9 : Hid (Lst w9 w.heap.size (.slice (some ⟨g9, 0, none⟩) (m + 1) c9) (m + 1)) := hl9; clear hl9 hg9 HW8 hv9 v')
     go_roundw
     case rel => exact ⟨m + 1, g9, c9, by omega, rfl, HL9.out, HC9.out⟩
     case measure => simp [lenV]; omega
    ·go_wp2
     go_ret
     exact ⟨g', m, gc', rfl, by omega, HW8.out⟩
 case false =>
  go_wp2_with fail
  refine (l1Once_any W0 c len cap a0 _ _ HW3.out.2.1 (by omega) (by omega)).mono ?_
  rintro e w7 ⟨t, rfl, hc7, hg7⟩
  have HW7 : Hid (Way w w7 W0 c len cap a0 g n gc) := HW3.out.step hcl hc7 hg7
  clear hc7 hg7 HW3
  cases t
  case false =>
   go_wp2
   go_ret
   exact ⟨g, n, gc, rfl, by omega, HW7.out⟩
  case true =>
   go_wp2_with fail
   go_loopw [3] (fun l wr => ∃ m g' gc' : Nat, (1 <= m /\ m <= 31) /\ l = .slice (some ⟨g', 0, none⟩) m gc' /\ Hid (Way w wr W0 c len cap a0 g' m gc')) (fun l _ => 32 - lenV l)
   case atStart => exact ⟨n, g, gc, by omega, rfl, HW7⟩
   case round =>
    obtain ⟨m, g', gc', ⟨m0, m1⟩, rfl, HR⟩ := hrel
    go_wp2_with fail
    refine (zY W0 c len cap a0 _ _ HR.out.2.1 (by omega) (by omega)).mono ?_
    rintro e w8 ⟨y, rfl, ⟨y0, y1⟩, hc8, hg8⟩
    have HW8 : Hid (Way w w8 W0 c len cap a0 g' m gc') := HR.out.step hcl hc8 hg8
    have hs8 := HW8.out.2.2.size
    clear hc8 hg8 HR
    by_cases hlt : (m : Int) < 30 + y
    ·go_wp2_with (at_builtin; refine append_ins w8 rfl _ _ rfl w.heap.size (.slice (some ⟨g', 0, none⟩) m gc') m rfl HW8.out.1 11 0 0 0 0 rfl (by omega) hs8 ?_; intro v' w9 hl9 hg9; have HC9 : Hid (Cur w9 W0 c a0 len cap /\ w.grownBy w9 (some c)) := ⟨Lst.cur HW8.out.1 HW8.out.2.1 hg9 hcl hcg, (HW8.out.2.2.trans (World.grownBy_alloc _ _ _)).andThen hg9 (fun j hj => .inl (HW8.out.1.own j hj))⟩; obtain ⟨g9, c9, hv9, _, _⟩ := hl9.form (by omega); rw [hv9]; rw [hv9] at hl9; have HL9 : Hid (Lst w9 w.heap.size (.slice (some ⟨g9, 0, none⟩) (m + 1) c9) (m + 1)) := hl9; clear hl9 hg9 HW8 hv9 v')
     go_roundw
     case rel => exact ⟨m + 1, g9, c9, by omega, rfl, HL9.out, HC9.out⟩
     case measure => simp [lenV]; omega
    ·go_wp2
     go_ret
     exact ⟨g', m, gc', rfl, by omega, HW8.out⟩
end Go.Proofs.YtcplnkhdclcgfaaGreatDoor
