/- The law of SysOk, walked. -/
import Derived.Test.YtkpbdcahpkpobabGreatDoorU52
import Derived.Test.YtkpbdcahpkpobabGreatDoorU46
import Derived.Test.YtkpbdcahpkpobabGreatDoorU49
import Derived.Deep.RegionHeld3
import Derived.Deep.CutRange
import Derived.Test.YtkpbdcahpkpobabGreatDoorU45
import Derived.Deep.RegionWith
namespace Go.Proofs.YtkpbdcahpkpobabGreatDoor
open Go.ChangeShapes Go.WideShapes Go.ChangeAt Go.RowKit Go.Deep Go.Sort

theorem systemOf_no (pa : Option Addr) (pn pc : Nat) (sa : Option Addr) (sn sc : Nat) (wa : Option Addr) (wn wc : Nat) (ha : Option Addr) (hn hc : Nat) (w : World) (h : ¬ ((1 ≤ pn ∧ pn ≤ 4) ∧ sn = pn ∧ hn = pn ∧ wn = pn * pn)) :
    Calls Tryz.prog 43 #[sysV pa pn pc sa sn sc wa wn wc ha hn hc] w fun e w' => e = .returned (.tuple #[.agg (sysL none 0 0 none 0 0 none 0 0 none 0 0).toArray, .bool false]) ∧ Below w.heap.size w w' := by
  by_cases h1 : (pn : Int) < 1
  · exact systemOf_less pa pn pc sa sn sc wa wn wc ha hn hc w h1
  by_cases h4 : (4 : Int) < (pn : Int)
  · exact systemOf_more pa pn pc sa sn sc wa wn wc ha hn hc w h1 h4
  rcases Bool.eq_false_or_eq_true ((sn : Int) != (pn : Int)) with h5 | h5
  · exact systemOf_states pa pn pc sa sn sc wa wn wc ha hn hc w h1 h4 h5
  rcases Bool.eq_false_or_eq_true ((hn : Int) != (pn : Int)) with h6 | h6
  · exact systemOf_hist pa pn pc sa sn sc wa wn wc ha hn hc w h1 h4 h5 h6
  have h8 : 0 ≤ (pn : Int) * (pn : Int) := Int.mul_nonneg (by omega) (by omega)
  have h9 : (pn : Int) * (pn : Int) ≤ 16 := by
    have := Int.mul_le_mul (show (pn : Int) ≤ 4 by omega) (show (pn : Int) ≤ 4 by omega) (by omega) (by omega)
    omega
  rcases Bool.eq_false_or_eq_true ((wn : Int) != (pn : Int) * (pn : Int)) with h7 | h7
  · exact systemOf_ways pa pn pc sa sn sc wa wn wc ha hn hc w h1 h4 h5 h6 h8 h9 h7
  · exfalso
    refine h ⟨⟨by omega, by omega⟩, ?_, ?_, ?_⟩
    · simp at h5
      omega
    · simp at h6
      omega
    · have h7' : (wn : Int) = (pn : Int) * (pn : Int) := by simpa using h7
      have : ((wn : Nat) : Int) = ((pn * pn : Nat) : Int) := by rw [h7', Int.natCast_mul]
      omega
theorem systemOf_ok (pa : Option Addr) (pn pc : Nat) (sa : Option Addr) (sn sc : Nat) (wa : Option Addr) (wn wc : Nat) (ha : Option Addr) (hn hc : Nat) (w : World) (h : (1 ≤ pn ∧ pn ≤ 4) ∧ sn = pn ∧ hn = pn ∧ wn = pn * pn) :
    Calls Tryz.prog 43 #[sysV pa pn pc sa sn sc wa wn wc ha hn hc] w fun e w' => e = .returned (.tuple #[.agg (sysL pa pn pc sa sn sc wa wn wc ha hn hc).toArray, .bool true]) ∧ Below w.heap.size w w' := by
  obtain ⟨⟨h1, h4⟩, h5, h6, h7⟩ := h
  have h8 : 0 ≤ (pn : Int) * (pn : Int) := Int.mul_nonneg (by omega) (by omega)
  have h9 : (pn : Int) * (pn : Int) ≤ 16 := by
    have := Int.mul_le_mul (show (pn : Int) ≤ 4 by omega) (show (pn : Int) ≤ 4 by omega) (by omega) (by omega)
    omega
  exact systemOf_yes pa pn pc sa sn sc wa wn wc ha hn hc w (by omega) (by omega) (by simp [h5]) (by simp [h6]) h8 h9 (by rw [h7, Int.natCast_mul]; simp)

/-- What the program asks, one question behind the other, is what is right. -/
theorem sy_iff {x : SysIn} (hc : (1 ≤ x.pn ∧ x.pn ≤ 4) ∧ x.sn = x.pn ∧ x.hn = x.pn ∧ x.wn = x.pn * x.pn) :
    ((∀ p, p < x.pn → progOkB (x.pH p) (x.pL p) x.pn = true) ∧ (∀ p, p < x.pn → x.StP p) ∧ (∀ p, p < x.hn → ∀ i, i < x.hL p → belB (x.hH p i).q x.hn = true) ∧ (∀ i, i < x.wn → x.WyP i) ∧ x.y.hs.Row) ↔ x.y.Ok := by
  obtain ⟨⟨c1, c4⟩, c5, c6, c7⟩ := hc
  refine ⟨fun ⟨a, b, c, d, e⟩ => ⟨⟨⟨c1, c4⟩, c5, c6, c7⟩, a, b, fun p hp i hi => ?_, fun p hp q hq => ?_, e⟩, fun h => ⟨h.pr, h.rp, fun p hp i hi => ?_, fun i hi => ?_, h.ro⟩⟩
  · have hp' : p < x.pn := hp
    have hi' : i < x.hL p := hi
    have := c p (by omega) i hi'
    simp only [belB, decide_eq_true_eq] at this
    show (x.hH p i).q < (x.pn : Int)
    omega
  · have hp' : p < x.pn := hp
    have hq' : q < x.pn := hq
    have hlt : p * x.pn + q < x.wn := by
      rw [c7]
      have : (p + 1) * x.pn ≤ x.pn * x.pn := Nat.mul_le_mul_right _ (by omega)
      rw [Nat.add_mul] at this
      omega
    have h1 : (p * x.pn + q) / x.pn = p := by
      rw [Nat.add_comm, Nat.add_mul_div_right _ _ (by omega), Nat.div_eq_of_lt hq']
      omega
    have h2 : (p * x.pn + q) % x.pn = q := by
      rw [Nat.add_comm, Nat.add_mul_mod_self_right, Nat.mod_eq_of_lt hq']
    obtain ⟨ok, eq⟩ := d _ hlt
    rw [h1, h2] at eq
    simp only [Bool.and_eq_true, decide_eq_true_eq] at ok
    exact ⟨itemsB_iff.1 ok.2, ok.1, eq⟩
  · have h1 := h.pe p (show p < x.pn by omega) i hi
    have h2 := rp_peer (repO_some (h.rp p (show p < x.pn by omega))).2.2 i hi
    have h3 : (x.hH p i).q < (x.pn : Int) := h1
    have h4 : 0 ≤ (x.hH p i).q := h2
    simp only [belB, decide_eq_true_eq]
    omega
  · have hlt : i < x.pn * x.pn := by rw [← c7]; exact hi
    have ha : i / x.pn < x.pn := Nat.div_lt_of_lt_mul hlt
    have hb : i % x.pn < x.pn := Nat.mod_lt _ (by omega)
    have e : i / x.pn * x.pn + i % x.pn = i := by rw [Nat.mul_comm]; exact Nat.div_add_mod i x.pn
    have h1 : WayP (x.wH (i / x.pn * x.pn + i % x.pn)) (x.wL (i / x.pn * x.pn + i % x.pn)) (valL (x.hH (i % x.pn)) 3 ((i / x.pn : Nat) : Int) (x.hL (i % x.pn))) (valL (x.hH (i / x.pn)) 2 ((i % x.pn : Nat) : Int) (x.hL (i / x.pn))) := h.wa _ ha _ hb
    rw [e] at h1
    refine ⟨?_, h1.eq⟩
    simp only [Bool.and_eq_true, decide_eq_true_eq]
    exact ⟨h1.le, itemsB_iff.2 h1.it⟩

end Go.Proofs.YtkpbdcahpkpobabGreatDoor

namespace Go.Proofs.YtkpbdcahpkpobabGreatDoor
open Go.ChangeShapes Go.WideShapes Go.ChangeAt Go.RowKit Go.Deep Go.Sort

theorem SysG.his {w : World} {x : SysIn} (h : SysG w x) (hn : x.hn = x.pn) : HisE w x.ha x.hA x.hC x.y.hs := by
  refine ⟨?_, fun i hi => h.hi i (by rw [hn]; exact hi)⟩
  show RowS w x.ha x.pn fun i => .slice (x.hA i) (x.hL i) (x.hC i)
  rw [← hn]
  exact h.h
/-- What systemOf has made, stored in block X. -/
theorem SysB.of_range {w : World} {X : Nat} {x : SysIn} (h : w.rangeAt X 0 (sysL x.pa x.pn x.pc x.sa x.sn x.sc x.wa x.wn x.wc x.ha x.hn x.hc)) : SysB w X x :=
  ⟨h 0 _ rfl, h 1 _ rfl, h 2 _ rfl, h 3 _ rfl, h 4 _ rfl⟩
theorem HisP.of_range {w : World} {X : Nat} {x : SysIn} (h : w.rangeAt X 0 (sysL x.pa x.pn x.pc x.sa x.sn x.sc x.wa x.wn x.wc x.ha x.hn x.hc)) (hn : x.hn = x.pn) (hf : ∀ j, w.frozen? ⟨X, j, none⟩ = false) : HisP w X x.ha x.hc x.y.hs (fun _ => 0) := by
  have hz : ∀ j, j < 20 → w.cell? ⟨X, 5 + j, none⟩ = some (.int .i64 0) := fun j hj => by
    have h1 : (sysL x.pa x.pn x.pc x.sa x.sn x.sc x.wa x.wn x.wc x.ha x.hn x.hc)[5 + j]? = some (.int .i64 0) := by
      match j, hj with
      | 0, _ => rfl
      | 1, _ => rfl
      | 2, _ => rfl
      | 3, _ => rfl
      | 4, _ => rfl
      | 5, _ => rfl
      | 6, _ => rfl
      | 7, _ => rfl
      | 8, _ => rfl
      | 9, _ => rfl
      | 10, _ => rfl
      | 11, _ => rfl
      | 12, _ => rfl
      | 13, _ => rfl
      | 14, _ => rfl
      | 15, _ => rfl
      | 16, _ => rfl
      | 17, _ => rfl
      | 18, _ => rfl
      | 19, _ => rfl
      | n + 20, h => exact absurd h (by omega)
    have := h (5 + j) _ h1
    rwa [Nat.zero_add] at this
  refine ⟨?_, fun i hi => hz i (by omega), fun a b ha hb => ?_, hf⟩
  · have := h 4 _ rfl
    show w.cell? ⟨X, 4, none⟩ = some (.slice x.ha x.pn x.hc)
    rw [← hn]
    exact this
  · rw [Hs.opn_start, show 9 + a * 4 + b = 5 + (4 + a * 4 + b) by omega]
    exact hz _ (by omega)

set_option maxRecDepth 100000 in
set_option maxHeartbeats 2000000 in
theorem implSysOk_any (x : SysIn) (w : World) (hG : SysG w x) (hL : x.Len) (hV : w.cell? ⟨0, 0, none⟩ = some (.iface 228 (.agg #[.pointer (some ⟨1, 154, none⟩)]))) :
    Calls Tryz.prog 11 #[x.v] w fun e w' => e = .returned (.bool x.y.okB) ∧ Below w.heap.size w w' := by
  have HG : Hid (SysG w x) := hG
  have HL : Hid x.Len := hL
  have HV : Hid (w.cell? ⟨0, 0, none⟩ = some (.iface 228 (.agg #[.pointer (some ⟨1, 154, none⟩)]))) := hV
  have HV0 : Hid (0 < w.heap.size) := World.block_lt_of_cell? w _ hV
  have bA := below_alloc w (.cells #[.slice x.pa x.pn x.pc, .slice x.sa x.sn x.sc, .slice x.wa x.wn x.wc, .slice x.ha x.hn x.hc] 35)
  have BA : Hid (Below w.heap.size w (w.alloc (.cells #[.slice x.pa x.pn x.pc, .slice x.sa x.sn x.sc, .slice x.wa x.wn x.wc, .slice x.ha x.hn x.hc] 35))) := bA
  clear hG hL hV bA
  by_cases hc : (1 ≤ x.pn ∧ x.pn ≤ 4) ∧ x.sn = x.pn ∧ x.hn = x.pn ∧ x.wn = x.pn * x.pn
  case neg =>
    have HN : Hid (x.y.okB = false) := Sy.okB_false fun h => hc h.cn
    have HC : Hid (¬ ((1 ≤ x.pn ∧ x.pn ≤ 4) ∧ x.sn = x.pn ∧ x.hn = x.pn ∧ x.wn = x.pn * x.pn)) := hc
    clear hc
    go_enter Tryz.func11, Tryz.ntmps11
    go_wp2_with fail
    generalize w.alloc (.cells #[.slice x.pa x.pn x.pc, .slice x.sa x.sn x.sc, .slice x.wa x.wn x.wc, .slice x.ha x.hn x.hc] 35) = wa at *
    refine (systemOf_no _ _ _ _ _ _ _ _ _ _ _ _ wa HC.out).mono ?_
    rintro e w1 ⟨rfl, b1⟩
    have B1 : Hid (Below w.heap.size w w1) := BA.out.trans (b1.mono BA.out.size)
    have hl := sysL_len none 0 0 none 0 0 none 0 0 none 0 0
    have ho := sysL_one none 0 0 none 0 0 none 0 0 none 0 0
    generalize sysL none 0 0 none 0 0 none 0 0 none 0 0 = cs at *
    have hs : cs.toArray.size = 25 := by simpa using hl
    have HI : Hid ((Tryz.prog.info? 80).map (·.size) = some cs.toArray.size) := by rw [hs]; exact infoSystem
    have HO : Hid (cs.toArray.all (·.oneCell') = true) := all_oneCell_toArray ho
    have HT : Hid ((w1.alloc (.cells #[.slice none 0 0, .slice none 0 0, .slice none 0 0, .slice none 0 0, .slice none 0 0, .int .i64 0, .int .i64 0, .int .i64 0, .int .i64 0, .int .i64 0, .int .i64 0, .int .i64 0, .int .i64 0, .int .i64 0, .int .i64 0, .int .i64 0, .int .i64 0, .int .i64 0, .int .i64 0, .int .i64 0, .int .i64 0, .int .i64 0, .int .i64 0, .int .i64 0, .int .i64 0] 80)).there w1.heap.size 0 cs.toArray.size) := there_new _ _ _ _ _ (by rw [hs]; rfl) rfl
    have BE : Hid (Below w.heap.size w ((w1.alloc (.cells #[.slice none 0 0, .slice none 0 0, .slice none 0 0, .slice none 0 0, .slice none 0 0, .int .i64 0, .int .i64 0, .int .i64 0, .int .i64 0, .int .i64 0, .int .i64 0, .int .i64 0, .int .i64 0, .int .i64 0, .int .i64 0, .int .i64 0, .int .i64 0, .int .i64 0, .int .i64 0, .int .i64 0, .int .i64 0, .int .i64 0, .int .i64 0, .int .i64 0, .int .i64 0] 80)).setCells w1.heap.size 0 cs)) := B1.out.trans ((Touch.sets (P := fun b => b = w1.heap.size) rfl _ _ (Touch.of_below (below_alloc _ _))).below B1.out.size fun b e => by have := B1.out.size; omega)
    clear b1 hl ho hs B1
    go_upto_region 2 with (refine wpList_store_mid rfl 80 (.tmp 3) (.tmp 8) rfl w1.heap.size 0 cs.toArray rfl rfl HT.out HI.out HO.out ?_)
    clear HT HI HO
    generalize (w1.alloc (.cells #[.slice none 0 0, .slice none 0 0, .slice none 0 0, .slice none 0 0, .slice none 0 0, .int .i64 0, .int .i64 0, .int .i64 0, .int .i64 0, .int .i64 0, .int .i64 0, .int .i64 0, .int .i64 0, .int .i64 0, .int .i64 0, .int .i64 0, .int .i64 0, .int .i64 0, .int .i64 0, .int .i64 0, .int .i64 0, .int .i64 0, .int .i64 0, .int .i64 0, .int .i64 0] 80)).setCells w1.heap.size 0 cs = w2 at *
    go_wp2
    go_ret
    rw [HN.out]
    exact ⟨rfl, BE.out⟩
  have HC : Hid ((1 ≤ x.pn ∧ x.pn ≤ 4) ∧ x.sn = x.pn ∧ x.hn = x.pn ∧ x.wn = x.pn * x.pn) := hc
  have HIf := sy_iff hc
  have HIF : Hid (((∀ p, p < x.pn → progOkB (x.pH p) (x.pL p) x.pn = true) ∧ (∀ p, p < x.pn → x.StP p) ∧ (∀ p, p < x.hn → ∀ i, i < x.hL p → belB (x.hH p i).q x.hn = true) ∧ (∀ i, i < x.wn → x.WyP i) ∧ x.y.hs.Row) ↔ x.y.Ok) := HIf
  clear hc HIf
  go_enter Tryz.func11, Tryz.ntmps11
  go_wp2_with fail
  generalize w.alloc (.cells #[.slice x.pa x.pn x.pc, .slice x.sa x.sn x.sc, .slice x.wa x.wn x.wc, .slice x.ha x.hn x.hc] 35) = wa at *
  refine (systemOf_ok _ _ _ _ _ _ _ _ _ _ _ _ wa HC.out).mono ?_
  rintro e w1 ⟨rfl, b1⟩
  have B1 : Hid (Below w.heap.size w w1) := BA.out.trans (b1.mono BA.out.size)
  have hl := sysL_len x.pa x.pn x.pc x.sa x.sn x.sc x.wa x.wn x.wc x.ha x.hn x.hc
  have ho := sysL_one x.pa x.pn x.pc x.sa x.sn x.sc x.wa x.wn x.wc x.ha x.hn x.hc
  generalize hcs : sysL x.pa x.pn x.pc x.sa x.sn x.sc x.wa x.wn x.wc x.ha x.hn x.hc = cs at *
  have hs : cs.toArray.size = 25 := by simpa using hl
  have HI : Hid ((Tryz.prog.info? 80).map (·.size) = some cs.toArray.size) := by rw [hs]; exact infoSystem
  have HO : Hid (cs.toArray.all (·.oneCell') = true) := all_oneCell_toArray ho
  have HT : Hid ((w1.alloc (.cells #[.slice none 0 0, .slice none 0 0, .slice none 0 0, .slice none 0 0, .slice none 0 0, .int .i64 0, .int .i64 0, .int .i64 0, .int .i64 0, .int .i64 0, .int .i64 0, .int .i64 0, .int .i64 0, .int .i64 0, .int .i64 0, .int .i64 0, .int .i64 0, .int .i64 0, .int .i64 0, .int .i64 0, .int .i64 0, .int .i64 0, .int .i64 0, .int .i64 0, .int .i64 0] 80)).there w1.heap.size 0 cs.toArray.size) := there_new _ _ _ _ _ (by rw [hs]; rfl) rfl
  have BE : Hid (Below w.heap.size w ((w1.alloc (.cells #[.slice none 0 0, .slice none 0 0, .slice none 0 0, .slice none 0 0, .slice none 0 0, .int .i64 0, .int .i64 0, .int .i64 0, .int .i64 0, .int .i64 0, .int .i64 0, .int .i64 0, .int .i64 0, .int .i64 0, .int .i64 0, .int .i64 0, .int .i64 0, .int .i64 0, .int .i64 0, .int .i64 0, .int .i64 0, .int .i64 0, .int .i64 0, .int .i64 0, .int .i64 0] 80)).setCells w1.heap.size 0 cs) ∧ w.heap.size ≤ w1.heap.size) := ⟨B1.out.trans ((Touch.sets (P := fun b => b = w1.heap.size) rfl _ _ (Touch.of_below (below_alloc _ _))).below B1.out.size fun b e => by have := B1.out.size; omega), B1.out.size⟩
  have HR : (((w1.alloc (.cells #[.slice none 0 0, .slice none 0 0, .slice none 0 0, .slice none 0 0, .slice none 0 0, .int .i64 0, .int .i64 0, .int .i64 0, .int .i64 0, .int .i64 0, .int .i64 0, .int .i64 0, .int .i64 0, .int .i64 0, .int .i64 0, .int .i64 0, .int .i64 0, .int .i64 0, .int .i64 0, .int .i64 0, .int .i64 0, .int .i64 0, .int .i64 0, .int .i64 0, .int .i64 0] 80)).setCells w1.heap.size 0 cs).rangeAt w1.heap.size 0 cs) := World.rangeAt_setCells_same _ _ _ _ (by simpa using HT.out)
  have HF : ∀ j, ((w1.alloc (.cells #[.slice none 0 0, .slice none 0 0, .slice none 0 0, .slice none 0 0, .slice none 0 0, .int .i64 0, .int .i64 0, .int .i64 0, .int .i64 0, .int .i64 0, .int .i64 0, .int .i64 0, .int .i64 0, .int .i64 0, .int .i64 0, .int .i64 0, .int .i64 0, .int .i64 0, .int .i64 0, .int .i64 0, .int .i64 0, .int .i64 0, .int .i64 0, .int .i64 0, .int .i64 0] 80)).setCells w1.heap.size 0 cs).frozen? ⟨w1.heap.size, j, none⟩ = false := fun j => by
    rw [World.frozen?_setCells]
    exact new_frozen _ _ _ _ rfl
  rw [← hcs] at HR HF
  have SB2 : Hid (SysB ((w1.alloc (.cells #[.slice none 0 0, .slice none 0 0, .slice none 0 0, .slice none 0 0, .slice none 0 0, .int .i64 0, .int .i64 0, .int .i64 0, .int .i64 0, .int .i64 0, .int .i64 0, .int .i64 0, .int .i64 0, .int .i64 0, .int .i64 0, .int .i64 0, .int .i64 0, .int .i64 0, .int .i64 0, .int .i64 0, .int .i64 0, .int .i64 0, .int .i64 0, .int .i64 0, .int .i64 0] 80)).setCells w1.heap.size 0 cs) w1.heap.size x ∧ HisP ((w1.alloc (.cells #[.slice none 0 0, .slice none 0 0, .slice none 0 0, .slice none 0 0, .slice none 0 0, .int .i64 0, .int .i64 0, .int .i64 0, .int .i64 0, .int .i64 0, .int .i64 0, .int .i64 0, .int .i64 0, .int .i64 0, .int .i64 0, .int .i64 0, .int .i64 0, .int .i64 0, .int .i64 0, .int .i64 0, .int .i64 0, .int .i64 0, .int .i64 0, .int .i64 0, .int .i64 0] 80)).setCells w1.heap.size 0 cs) w1.heap.size x.ha x.hc x.y.hs (fun _ => 0)) := by
    rw [← hcs]
    exact ⟨SysB.of_range HR, HisP.of_range HR HC.out.2.2.1 HF⟩
  clear b1 hl ho hs B1 hcs HR HF
  go_upto_region 2 with (refine wpList_store_mid rfl 80 (.tmp 3) (.tmp 8) rfl w1.heap.size 0 cs.toArray rfl rfl HT.out HI.out HO.out ?_)
  clear HT HI HO
  generalize (w1.alloc (.cells #[.slice none 0 0, .slice none 0 0, .slice none 0 0, .slice none 0 0, .slice none 0 0, .int .i64 0, .int .i64 0, .int .i64 0, .int .i64 0, .int .i64 0, .int .i64 0, .int .i64 0, .int .i64 0, .int .i64 0, .int .i64 0, .int .i64 0, .int .i64 0, .int .i64 0, .int .i64 0, .int .i64 0, .int .i64 0, .int .i64 0, .int .i64 0, .int .i64 0, .int .i64 0] 80)).setCells w1.heap.size 0 cs = w2 at *
  generalize w1.heap.size = X at *
  go_wp2_with fail
  refine (progsOk_any X x w2 SB2.out.1 (HG.out.below BE.out.1) HL.out).mono ?_
  rintro e w3 ⟨rfl, b3⟩
  have B3 : Hid (Below w.heap.size w w3) := BE.out.1.trans (b3.mono BE.out.1.size)
  have SB3 : Hid (SysB w3 X x ∧ HisP w3 X x.ha x.hc x.y.hs (fun _ => 0)) := ⟨SB2.out.1.below b3, SB2.out.2.below b3⟩
  clear b3 SB2
  by_cases q1 : ∀ p, p < x.pn → progOkB (x.pH p) (x.pL p) x.pn = true
  case neg =>
    have HN : Hid (x.y.okB = false) := Sy.okB_false fun h => q1 (HIF.out.2 h).1
    rw [qB_false q1]
    clear q1
    go_wp2
    go_ret
    rw [HN.out]
    exact ⟨rfl, B3.out⟩
  have Q1 : Hid (∀ p, p < x.pn → progOkB (x.pH p) (x.pL p) x.pn = true) := q1
  rw [qB_true q1]
  clear q1
  go_wp2_with fail
  refine (statesOk_any X x w3 SB3.out.1 (HG.out.below B3.out) HL.out HC.out.2.1 HC.out.2.2.1 ((B3.out.cell (p := ⟨0, 0, none⟩) HV0.out).trans HV.out)).mono ?_
  rintro e w4 ⟨rfl, b4⟩
  have B4 : Hid (Below w.heap.size w w4) := B3.out.trans (b4.mono B3.out.size)
  have SB4 : Hid (SysB w4 X x ∧ HisP w4 X x.ha x.hc x.y.hs (fun _ => 0)) := ⟨SB3.out.1.below b4, SB3.out.2.below b4⟩
  clear b4 SB3
  by_cases q2 : ∀ p, p < x.pn → x.StP p
  case neg =>
    have HN : Hid (x.y.okB = false) := Sy.okB_false fun h => q2 (HIF.out.2 h).2.1
    rw [qB_false q2]
    clear q2
    go_wp2
    go_ret
    rw [HN.out]
    exact ⟨rfl, B4.out⟩
  have Q2 : Hid (∀ p, p < x.pn → x.StP p) := q2
  have H2 : Hid (∀ p, p < x.hn → x.hL p ≤ 200) := fun p hp => (repO_some (Q2.out p (by have := HC.out; omega))).2.1
  rw [qB_true q2]
  clear q2
  go_wp2_with fail
  refine (peersOk_any X x w4 SB4.out.1 (HG.out.below B4.out) HL.out).mono ?_
  rintro e w5 ⟨rfl, b5⟩
  have B5 : Hid (Below w.heap.size w w5) := B4.out.trans (b5.mono B4.out.size)
  have SB5 : Hid (SysB w5 X x ∧ HisP w5 X x.ha x.hc x.y.hs (fun _ => 0)) := ⟨SB4.out.1.below b5, SB4.out.2.below b5⟩
  clear b5 SB4
  by_cases q3 : ∀ p, p < x.hn → ∀ i, i < x.hL p → belB (x.hH p i).q x.hn = true
  case neg =>
    have HN : Hid (x.y.okB = false) := Sy.okB_false fun h => q3 (HIF.out.2 h).2.2.1
    rw [qB_false q3]
    clear q3
    go_wp2
    go_ret
    rw [HN.out]
    exact ⟨rfl, B5.out⟩
  have Q3 : Hid (∀ p, p < x.hn → ∀ i, i < x.hL p → belB (x.hH p i).q x.hn = true) := q3
  rw [qB_true q3]
  clear q3
  go_wp2_with fail
  refine (waysOk_any X x w5 SB5.out.1 (HG.out.below B5.out) HL.out HC.out.2.2.1 HC.out.2.2.2 HC.out.1.1 HC.out.1.2 H2.out).mono ?_
  rintro e w6 ⟨rfl, b6⟩
  have B6 : Hid (Below w.heap.size w w6) := B5.out.trans (b6.mono B5.out.size)
  have SB6 : Hid (SysB w6 X x ∧ HisP w6 X x.ha x.hc x.y.hs (fun _ => 0)) := ⟨SB5.out.1.below b6, SB5.out.2.below b6⟩
  clear b6 SB5
  by_cases q4 : ∀ i, i < x.wn → x.WyP i
  case neg =>
    have HN : Hid (x.y.okB = false) := Sy.okB_false fun h => q4 (HIF.out.2 h).2.2.2.1
    rw [qB_false q4]
    clear q4
    go_wp2
    go_ret
    rw [HN.out]
    exact ⟨rfl, B6.out⟩
  have Q4 : Hid (∀ i, i < x.wn → x.WyP i) := q4
  rw [qB_true q4]
  clear q4
  have HP : Hid x.y.hs.Peers := fun p hp i hi => by
    have h1 := Q3.out p (by have := HC.out; have : p < x.pn := hp; omega) i hi
    simp only [belB, decide_eq_true_eq] at h1
    rw [HC.out.2.2.1] at h1
    exact h1
  go_wp2_with fail
  refine (canRow_any X x.ha x.hc x.hA x.hC x.y.hs w w6 (HG.out.his HC.out.2.2.1) B6.out BE.out.2 SB6.out.2 HC.out.1.2 HP.out (fun i hi => H2.out i (by have := HC.out; have : i < x.pn := hi; omega))).mono ?_
  rintro e w7 ⟨rfl, b7⟩
  have B7 : Hid (Below w.heap.size w w7) := b7
  have HN : Hid (qB x.y.hs.Row = x.y.okB) := by
    show qB x.y.hs.Row = x.y.okB
    by_cases hr : x.y.hs.Row
    · rw [qB_true hr, Sy.okB_true (HIF.out.1 ⟨Q1.out, Q2.out, Q3.out, Q4.out, hr⟩)]
    · rw [qB_false hr, Sy.okB_false fun h => hr (HIF.out.2 h).2.2.2.2]
  rw [HN.out]
  clear b7 HN
  go_wp2
  go_ret
  exact ⟨rfl, B7.out⟩

end Go.Proofs.YtkpbdcahpkpobabGreatDoor

namespace Go.Proofs.YtkpbdcahpkpobabGreatDoor
open Go.ChangeShapes Go.WideShapes Go.ChangeAt Go.RowKit Go.Deep Go.Sort

/-- What the model asks of one process. -/
structure SysIn.One (x : SysIn) (p : Nat) : Prop where
  pr : progOkB (x.pH p) (x.pL p) x.pn = true
  st : x.StP p
  pe : ∀ i, i < x.hL p → (x.hH p i).q < (x.pn : Int)
/-- What it asks of one way. -/
def SysIn.Two (x : SysIn) (a b : Nat) : Prop := WayP (x.wH (a * x.pn + b)) (x.wL (a * x.pn + b)) (valL (x.hH b) 3 a (x.hL b)) (valL (x.hH a) 2 b (x.hL a))
theorem sy_two {x : SysIn} (hc : (1 ≤ x.pn ∧ x.pn ≤ 4) ∧ x.sn = x.pn ∧ x.hn = x.pn ∧ x.wn = x.pn * x.pn) (h1 : ∀ p, p < x.pn → x.One p) (h2 : ∀ a, a < x.pn → ∀ b, b < x.pn → x.Two a b) (h3 : x.y.hs.Row) : x.y.Ok :=
  ⟨hc, fun p hp => (h1 p hp).pr, fun p hp => (h1 p hp).st, fun p hp => (h1 p hp).pe, h2, h3⟩
theorem sy_one {x : SysIn} (h : x.y.Ok) {p : Nat} (hp : p < x.pn) : x.One p := ⟨h.pr p hp, h.rp p hp, h.pe p hp⟩
theorem sy_way {x : SysIn} (h : x.y.Ok) {a b : Nat} (ha : a < x.pn) (hb : b < x.pn) : x.Two a b := h.wa a ha b hb

set_option maxRecDepth 100000 in
set_option maxHeartbeats 4000000 in
theorem specSysOk_any (x : SysIn) (w : World) (hG : SysG w x) (hL : x.Len) (hcap : ∀ i, i < x.hn → x.hL i ≤ x.hC i) :
    Calls Tryz.prog 9 #[x.v] w fun e w' => e = .returned (.bool x.y.okB) ∧ Below w.heap.size w w' := by
  have HG : Hid (SysG w x) := hG
  have HL : Hid x.Len := hL
  have HCap : Hid (∀ i, i < x.hn → x.hL i ≤ x.hC i) := hcap
  have hpn : (x.pn : Int) ≤ 1048576 := by have := hL.p.1; omega
  have hm0 : 0 ≤ (x.pn : Int) * (x.pn : Int) := Int.mul_nonneg (by omega) (by omega)
  have hm1 : (x.pn : Int) * (x.pn : Int) ≤ 1099511627776 := by
    have := Int.mul_le_mul hpn hpn (by omega) (by omega)
    omega
  have BA : Hid (Below w.heap.size w (w.alloc (.cells #[.slice x.pa x.pn x.pc, .slice x.sa x.sn x.sc, .slice x.wa x.wn x.wc, .slice x.ha x.hn x.hc] 35))) := below_alloc _ _
  have NB : Hid (BoxC (w.alloc (.cells #[.slice x.pa x.pn x.pc, .slice x.sa x.sn x.sc, .slice x.wa x.wn x.wc, .slice x.ha x.hn x.hc] 35)) w.heap.size (.slice x.pa x.pn x.pc) (.slice x.sa x.sn x.sc) (.slice x.wa x.wn x.wc) (.slice x.ha x.hn x.hc)) := BoxC.new w _ _ _ _ _
  clear hG hL hcap
  by_cases hc : (1 ≤ x.pn ∧ x.pn ≤ 4) ∧ x.sn = x.pn ∧ x.hn = x.pn ∧ x.wn = x.pn * x.pn
  case neg =>
    have HN : Hid (x.y.okB = false) := Sy.okB_false fun h => hc h.cn
    rcases Bool.eq_false_or_eq_true (inB x.pn 1 4) with t1 | t1
    case inr =>
      clear hc
      go_enter Tryz.func9, Tryz.ntmps9
      go_wp2_with fail
      refine (l1In_any _ _ _ _).mono ?_
      rintro e w1 ⟨rfl, rfl⟩
      rw [t1]
      go_wp2
      go_ret
      rw [HN.out]
      exact ⟨rfl, BA.out⟩
    rcases Bool.eq_false_or_eq_true ((x.sn : Int) != (x.pn : Int)) with t2 | t2
    case inl =>
      clear hc
      go_enter Tryz.func9, Tryz.ntmps9
      go_wp2_with fail
      refine (l1In_any _ _ _ _).mono ?_
      rintro e w1 ⟨rfl, rfl⟩
      rw [t1]
      go_wp2
      go_ret
      rw [HN.out]
      exact ⟨rfl, BA.out⟩
    rcases Bool.eq_false_or_eq_true ((x.hn : Int) != (x.pn : Int)) with t3 | t3
    case inl =>
      clear hc
      go_enter Tryz.func9, Tryz.ntmps9
      go_wp2_with fail
      refine (l1In_any _ _ _ _).mono ?_
      rintro e w1 ⟨rfl, rfl⟩
      rw [t1]
      go_wp2
      go_ret
      rw [HN.out]
      exact ⟨rfl, BA.out⟩
    have t4 : ((x.wn : Int) != (x.pn : Int) * (x.pn : Int)) = true := by
      have t1' : 1 ≤ (x.pn : Int) ∧ (x.pn : Int) ≤ 4 := by simpa [inB] using t1
      have t2' : (x.sn : Int) = x.pn := by simpa using t2
      have t3' : (x.hn : Int) = x.pn := by simpa using t3
      have : ¬ (x.wn : Int) = (x.pn : Int) * (x.pn : Int) := fun e => hc ⟨⟨by omega, by omega⟩, by omega, by omega, by
        have : ((x.wn : Nat) : Int) = ((x.pn * x.pn : Nat) : Int) := by rw [e, Int.natCast_mul]
        omega⟩
      simpa using this
    clear hc
    go_enter Tryz.func9, Tryz.ntmps9
    go_wp2_with fail
    refine (l1In_any _ _ _ _).mono ?_
    rintro e w1 ⟨rfl, rfl⟩
    rw [t1]
    go_wp2
    go_ret
    rw [HN.out]
    exact ⟨rfl, BA.out⟩
  have t1 : inB x.pn 1 4 = true := by simp [inB]; omega
  have t2 : ((x.sn : Int) != (x.pn : Int)) = false := by simp [hc.2.1]
  have t3 : ((x.hn : Int) != (x.pn : Int)) = false := by simp [hc.2.2.1]
  have t4 : ((x.wn : Int) != (x.pn : Int) * (x.pn : Int)) = false := by rw [hc.2.2.2, Int.natCast_mul]; simp
  have hp4 : (x.pn : Int) ≤ 4 := by omega
  have HC : Hid ((1 ≤ x.pn ∧ x.pn ≤ 4) ∧ x.sn = x.pn ∧ x.hn = x.pn ∧ x.wn = x.pn * x.pn) := hc
  clear hc
  go_enter Tryz.func9, Tryz.ntmps9
  go_wp2_with fail
  refine (l1In_any _ _ _ _).mono ?_
  rintro e w1 ⟨rfl, rfl⟩
  rw [t1]
  go_wp2_with fail
  clear hm0 hm1 t1 t2 t3 t4 hpn
  generalize w.alloc (.cells #[.slice x.pa x.pn x.pc, .slice x.sa x.sn x.sc, .slice x.wa x.wn x.wc, .slice x.ha x.hn x.hc] 35) = wb at *
  go_loopw [4] (fun i wr => ∃ k : Nat, k ≤ x.pn ∧ i = .int .i64 k ∧ Hid (Below wb.heap.size wb wr ∧ ∀ j, j < k → x.One j)) (fun i _ => x.pn - (intOf i).toNat)
  case atStart => exact ⟨0, Nat.zero_le _, rfl, Below.refl _ _, fun j hj => by omega⟩
  case round =>
    obtain ⟨k, hk, rfl, HZ⟩ := hrel
    have hbw : Below w.heap.size w wr := BA.out.trans (HZ.out.1.mono BA.out.size)
    have HBW : Hid (Below w.heap.size w wr) := hbw
    obtain ⟨b0, b1, b2, b3⟩ := NB.out.below HZ.out.1
    by_cases hlt : k < x.pn
    · have hlt' : (k : Int) < (x.pn : Int) := by omega
      obtain ⟨bp, op, ep, ck⟩ := (HG.out.below hbw).p.at hlt
      obtain ⟨b, eb, hbl, hI⟩ := (HG.out.below hbw).pi k hlt
      rw [eb] at ck
      rw [ep] at b0
      have HI : Hid (InsAt wr b 0 (x.pL k) (x.pH k)) := hI
      have HM : Hid (x.pL k ≤ maxLen) := by
        show x.pL k ≤ maxLen
        have := HL.out.p.2 k hlt
        unfold maxLen
        omega
      clear hI hbw
      go_wp2_with fail
      refine (specProgOk_any b 0 (x.pL k) _ (x.pH k) x.pn wr HM.out hbl HI.out).mono ?_
      rintro e w2 ⟨rfl, c2⟩
      have HZ2 : Hid (Below wb.heap.size wb w2 ∧ ∀ j, j < k → x.One j) := ⟨HZ.out.1.trans (c2.mono HZ.out.1.size), HZ.out.2⟩
      have HB2 : Hid (Below w.heap.size w w2) := HBW.out.trans (c2.mono HBW.out.size)
      clear b0 b1 b2 b3 ck c2 HZ HBW HI hbl
      rcases Bool.eq_false_or_eq_true (progOkB (x.pH k) (x.pL k) x.pn) with tp | tp
      case inr =>
        have HN : Hid (x.y.okB = false) := Sy.okB_false fun h => by
          have := (sy_one h hlt).pr
          rw [tp] at this
          cases this
        rw [tp]
        go_wp2
        go_ret
        rw [HN.out]
        exact ⟨rfl, HB2.out⟩
      have TP : Hid (progOkB (x.pH k) (x.pL k) x.pn = true) := tp
      rw [tp]
      clear tp
      have hkh : k < x.hn := by have := HC.out; omega
      have hks : k < x.sn := by have := HC.out; omega
      have hkh' : (k : Int) < (x.hn : Int) := by omega
      have hks' : (k : Int) < (x.sn : Int) := by omega
      obtain ⟨b0, b1, b2, b3⟩ := NB.out.below HZ2.out.1
      obtain ⟨bp', op', ep', ck⟩ := (HG.out.below HB2.out).p.at hlt
      obtain ⟨b', eb', hbl, hI⟩ := (HG.out.below HB2.out).pi k hlt
      obtain ⟨bh, oh, eh, ch⟩ := (HG.out.below HB2.out).h.at hkh
      rw [eb'] at ck
      rw [ep'] at b0
      rw [eh] at b3
      have HI : Hid (∀ wx, Below w2.heap.size w2 wx → b' < wx.heap.size ∧ InsAt wx b' 0 (x.pL k) (x.pH k)) := fun wx hb => ⟨Nat.lt_of_lt_of_le hbl hb.size, hI.below hb hbl⟩
      have HE : Hid (EvL w2 (x.hA k) (x.hL k) (x.hH k)) := (HG.out.below HB2.out).hi k hkh
      have HLk : Hid (x.hL k ≤ 1048576) := HL.out.h.2 k hkh
      generalize hR : resS (repO (x.pH k) (x.pL k) (x.hH k) (x.hL k)) = R
      generalize hT : (repO (x.pH k) (x.pL k) (x.hH k) (x.hL k)).isSome = T
      have HO : Hid (resS (repO (x.pH k) (x.pL k) (x.hH k) (x.hL k)) = R ∧ (repO (x.pH k) (x.pL k) (x.hH k) (x.hL k)).isSome = T) := ⟨hR, hT⟩
      have hRl := repO_len (x.pH k) (x.pL k) (x.hH k) (x.hL k)
      rw [hR] at hRl
      have HRL : Hid (R.rs.length ≤ 1048576 ∧ R.os.length ≤ 1048576) := hRl
      have d1 : w2.heap.size ≠ w.heap.size := by have := World.block_lt_of_cell? w2 _ b0; simp at this; omega
      have d2 : w2.heap.size ≠ bp' := by have := World.block_lt_of_cell? w2 _ ck; simp at this; omega
      have d3 : w2.heap.size ≠ bh := by have := World.block_lt_of_cell? w2 _ ch; simp at this; omega
      clear hI hR hT hRl ep' eb' eh ep eb hbl
      go_wp2_with fail
      go_cut [5, 6] from 55 to 68 (fun s t wx => ∃ M : Nat, s = .pointer (some ⟨M, 0, none⟩) ∧ t = .bool T ∧ Hid (Below w2.heap.size w2 wx ∧ Told wx w2.heap.size M R))
      case first =>
        go_region_held3 (fun w' => w'.cell? ⟨w.heap.size, 0, none⟩ = some (.slice (some ⟨bp', op', none⟩) x.pn x.pc) ∧ w'.cell? ⟨w.heap.size, 3, none⟩ = some (.slice (some ⟨bh, oh, none⟩) x.hn x.hc) ∧ w'.cell? ⟨bp', op' + k, none⟩ = some (.slice (some ⟨b', 0, none⟩) (x.pL k) (x.pC k)) ∧ w'.cell? ⟨bh, oh + k, none⟩ = some (.slice (x.hA k) (x.hL k) (x.hC k))) (go_keep)
          (first
            | (go_at_call 35; refine (specReplay_l b' (x.pL k) _ (x.hA k) (x.hL k) _ (x.pH k) (x.hH k) _ HM.out (HI.out _ (by go_grown)).1 (HI.out _ (by go_grown)).2 (HE.out.below (by go_grown)) HLk.out).mono ?_; rintro e w5 hd; rw [HO.out.1, HO.out.2] at hd; obtain ⟨v5, rfl, o5, b5⟩ := hd; obtain ⟨ra5, rc5, oa5, oc5, rfl, -, -⟩ := o5.read; have q5 : Below w2.heap.size w2 w5 := below_up (by go_grown) b5 (by simp); (try simp only [World.size_alloc, World.size_drew] at o5); have O5 : Hid (StOwn w5 _ (stV R.p ra5 R.rs.length rc5 oa5 R.os.length oc5 R.c) R.p R.rs R.os R.c) := o5; obtain ⟨hc5, hf5⟩ := bcell b5; have z5 := b5.size; (try simp only [World.size_alloc, World.size_drew, Nat.add_one_le_iff] at z5); have j5 : w2.heap.size ≤ w5.heap.size := q5.size; have Q5 : Hid (Below w2.heap.size w2 w5) := q5; have y0 := (q5.cell (p := ⟨w.heap.size, 0, none⟩) (World.block_lt_of_cell? w2 _ b0)).trans b0; have y3 := (q5.cell (p := ⟨w.heap.size, 3, none⟩) (World.block_lt_of_cell? w2 _ b3)).trans b3; have yk := (q5.cell (p := ⟨bp', op' + k, none⟩) (World.block_lt_of_cell? w2 _ ck)).trans ck; have yh := (q5.cell (p := ⟨bh, oh + k, none⟩) (World.block_lt_of_cell? w2 _ ch)).trans ch; clear o5 b5 q5))
        all_goals
          go_wp2_with fail
          go_meet
          case rel =>
            first
            | (refine ⟨w5.heap.size, by with_reducible rfl, rfl, ?_⟩
               exact ⟨Q5.out.trans ((below_alloc _ _).mono j5), Told.of_alloc O5.out (by omega) (by omega) _⟩)
            | (refine ⟨w2.heap.size, by with_reducible rfl, rfl, ?_⟩
               exact ⟨(((Q5.out.setCell (Nat.le_refl _) _).setCell (Nat.le_refl _) _).setCell (Nat.le_refl _) _).setCell (Nat.le_refl _) _, Told.of_put (z0 := .int .i64 0) (z1 := .slice none 0 0) (z2 := .slice none 0 0) (z3 := .int .i64 0) O5.out (by omega) (by omega) (by omega) ⟨by rw [hc5 _ _ (by simp)]; simp, by rw [hc5 _ _ (by simp)]; simp, by rw [hc5 _ _ (by simp)]; simp, by rw [hc5 _ _ (by simp)]; simp⟩⟩)
      case rest =>
        obtain ⟨M, rfl, rfl, HMt⟩ := hcut
        obtain ⟨ra, rc, oa, oc, TG⟩ := HMt.out.2.tl
        have HZ3 : Hid (Below wb.heap.size wb wc ∧ ∀ j, j < k → x.One j) := ⟨HZ2.out.1.trans (HMt.out.1.mono HZ2.out.1.size), HZ2.out.2⟩
        have HB3 : Hid (Below w.heap.size w wc) := HB2.out.trans (HMt.out.1.mono HB2.out.size)
        have HS3 : Hid (Sl wc ra R.rs ∧ Sl wc oa R.os) := TG.sl
        have HBX : Hid (BoxC wc M (.int .i64 R.p) (.slice ra R.rs.length rc) (.slice oa R.os.length oc) (.int .i64 R.c)) := TG.box
        clear b0 b1 b2 b3 ck ch d1 d2 d3 HI HE HLk HM HZ2 HB2 HMt TG
        rcases Bool.eq_false_or_eq_true T with rfl | rfl
        case inr =>
          have HN : Hid (x.y.okB = false) := Sy.okB_false fun h => by
            have h1 : repO (x.pH k) (x.pL k) (x.hH k) (x.hL k) = some (x.sS k) := (sy_one h hlt).st
            have h2 := HO.out.2
            rw [h1] at h2
            cases h2
          go_wp2_with fail
          go_quiet (fail)
          go_wp2
          go_ret
          rw [HN.out]
          exact ⟨rfl, below_drewN HB3.out _⟩
        case inl =>
          have HP : Hid (eqS R (x.sS k) = true ↔ x.StP k) := by
            show eqS R (x.sS k) = true ↔ x.StP k
            rw [eqS_iff]
            unfold SysIn.StP
            cases hr : repO (x.pH k) (x.pL k) (x.hH k) (x.hL k) with
            | none => have := HO.out.2; rw [hr] at this; cases this
            | some S0 =>
              have := HO.out.1
              rw [hr] at this
              rw [show S0 = R from this]
              exact ⟨fun e => by rw [e], fun e => Option.some.inj e⟩
          obtain ⟨k0, k1, k2, k3⟩ := HBX.out
          obtain ⟨-, x1, -, -⟩ := NB.out.below HZ3.out.1
          obtain ⟨bs, os, es, s0, s1, s2, s3⟩ := (HG.out.below HB3.out).s.at hks
          rw [es] at x1
          have HST : Hid (Sl wc (x.sQ k).ra (x.sQ k).rs ∧ Sl wc (x.sQ k).oa (x.sQ k).os) := (HG.out.below HB3.out).s.lst k hks
          have HSL : Hid ((x.sQ k).rs.length ≤ 1048576 ∧ (x.sQ k).os.length ≤ 1048576) := HL.out.s.2 k hks
          have k0' := cell_regrown k0
          have k1' := cell_regrown k1
          have k2' := cell_regrown k2
          have k3' := cell_regrown k3
          have x1' := cell_regrown x1
          have s0' := cell_regrown s0
          have s1' := cell_regrown s1
          have s2' := cell_regrown s2
          have s3' := cell_regrown s3
          clear es
          have HCs : Hid (∀ d os', Calls Tryz.prog 36 #[stV R.p ra R.rs.length rc oa R.os.length oc R.c, stV (x.sQ k).p (x.sQ k).ra (x.sQ k).rs.length (x.sQ k).rc (x.sQ k).oa (x.sQ k).os.length (x.sQ k).oc (x.sQ k).c] (grow (redrawn wc d) os') fun e w' => e = .returned (.bool (eqS R (x.sS k))) ∧ Below (grow (redrawn wc d) os').heap.size (grow (redrawn wc d) os') w') := fun d os' =>
            specSameState_any R (x.sS k) _ _ _ _ _ _ _ _ _ HRL.out.1 HRL.out.2 HSL.out.1 HSL.out.2 (HS3.out.1.below (below_regrown wc d os')) (HS3.out.2.below (below_regrown wc d os')) (HST.out.1.below (below_regrown wc d os')) (HST.out.2.below (below_regrown wc d os'))
          go_wp2_with fail
          refine wp_region_quiet_below (by kernel_rfl) (by kernel_rfl) ?_
          repeat (quiet_step (first | (go_at_call 36; exact Calls.regrown_of (HCs.out _ _))))
          refine wpQuiet_nil ?_
          intro _ hw'
          obtain ⟨⟨dq, osq⟩, hw''⟩ := hw'
          subst hw''
          have HZ4 : Hid (Below wb.heap.size wb (grow (redrawn wc dq) osq) ∧ ∀ j, j < k → x.One j) := ⟨HZ3.out.1.trans ((below_regrown wc dq osq).mono HZ3.out.1.size), HZ3.out.2⟩
          have HB4 : Hid (Below w.heap.size w (grow (redrawn wc dq) osq)) := HB3.out.trans ((below_regrown wc dq osq).mono HB3.out.size)
          generalize grow (redrawn wc dq) osq = w4 at *
          clear k0' k1' k2' k3' x1' s0' s1' s2' s3' k0 k1 k2 k3 x1 s0 s1 s2 s3 HCs HZ3 HB3 HS3 HBX HST HSL
          rcases Bool.eq_false_or_eq_true (eqS R (x.sS k)) with t | t
          case inr =>
            have HN : Hid (x.y.okB = false) := Sy.okB_false fun h => by
              have := HP.out.2 (sy_one h hlt).st
              rw [t] at this
              cases this
            rw [t]
            clear t
            go_wp2
            go_ret
            rw [HN.out]
            exact ⟨rfl, HB4.out⟩
          have HSt : Hid (x.StP k) := HP.out.1 t
          rw [t]
          clear t
          have hll : (x.hL k : Int) ≤ 1048576 := by have := HL.out.h.2 k hkh; omega
          go_wp2_with fail
          go_loopw [7] (fun i wr => ∃ j : Nat, j ≤ x.hL k ∧ i = .int .i64 j ∧ Hid (Below wb.heap.size wb wr ∧ ∀ i, i < j → (x.hH k i).q < (x.pn : Int))) (fun i _ => x.hL k - (intOf i).toNat)
          case atStart => exact ⟨0, Nat.zero_le _, rfl, HZ4.out.1, fun j hj => by omega⟩
          case round =>
            obtain ⟨j, hj, rfl, HY⟩ := hrel
            have HBj : Hid (Below w.heap.size w wr) := BA.out.trans (HY.out.1.mono BA.out.size)
            obtain ⟨-, -, -, b3⟩ := NB.out.below HY.out.1
            obtain ⟨bh, oh, eh, ch⟩ := (HG.out.below HBj.out).h.at hkh
            rw [eh] at b3
            clear eh
            by_cases hjl : j < x.hL k
            · have hjl' : (j : Int) < (x.hL k : Int) := by omega
              obtain ⟨be, oe, ea, -, c0, c1, c2⟩ := ((HG.out.below HBj.out).hi k hkh).at hjl
              rw [ea] at ch
              by_cases hq : (x.hH k j).q < (x.pn : Int)
              · have hq' : ¬ (x.pn : Int) ≤ (x.hH k j).q := by omega
                have HY' : Hid (Below wb.heap.size wb wr ∧ ∀ i, i < j + 1 → (x.hH k i).q < (x.pn : Int)) := ⟨HY.out.1, fun i hi => by
                  by_cases e : i = j
                  · subst e
                    exact hq
                  · exact HY.out.2 i (by omega)⟩
                clear HY ea
                go_wp2
                go_roundw
                case rel => exact ⟨j + 1, by omega, by go_num, HY'.out⟩
                case measure => simp [intOf]; omega
              · have hq' : (x.pn : Int) ≤ (x.hH k j).q := by omega
                have HN : Hid (x.y.okB = false) := Sy.okB_false fun h => hq ((sy_one h hlt).pe j hjl)
                clear HY ea
                go_wp2
                go_ret
                rw [HN.out]
                exact ⟨rfl, HBj.out⟩
            · have HZ5 : Hid (Below wb.heap.size wb wr ∧ ∀ p, p < k + 1 → x.One p) := ⟨HY.out.1, fun p hp => by
                by_cases e : p = k
                · subst e
                  exact ⟨TP.out, HSt.out, fun i hi => HY.out.2 i (by omega)⟩
                · exact HZ4.out.2 p (by omega)⟩
              have hjl' : ¬ (j : Int) < (x.hL k : Int) := by omega
              clear HY
              go_wp2
              go_roundw
              case rel => exact ⟨k + 1, by omega, by go_num, HZ5.out⟩
              case measure => simp [intOf]; omega
    · have HOne : Hid (∀ p, p < x.pn → x.One p) := fun p hp => HZ.out.2 p (by omega)
      have hkn : ¬ (k : Int) < (x.pn : Int) := by omega
      have HW0 : Hid (Below wb.heap.size wb wr) := HZ.out.1
      clear HZ b0 b1 b2 b3 hbw HBW
      go_wp2_with fail
      go_loopw [8] (fun i wr => ∃ a : Nat, a ≤ x.pn ∧ i = .int .i64 a ∧ Hid (Below wb.heap.size wb wr ∧ ∀ a', a' < a → ∀ b, b < x.pn → x.Two a' b)) (fun i _ => x.pn - (intOf i).toNat)
      case atStart => exact ⟨0, Nat.zero_le _, rfl, HW0.out, fun j hj => by omega⟩
      case round =>
        clear HW0
        obtain ⟨a, ha, rfl, HX⟩ := hrel
        by_cases hal : a < x.pn
        · have hal' : (a : Int) < (x.pn : Int) := by omega
          go_wp2_with fail
          go_loopw [9] (fun i wr => ∃ b : Nat, b ≤ x.pn ∧ i = .int .i64 b ∧ Hid (Below wb.heap.size wb wr ∧ ∀ b', b' < b → x.Two a b')) (fun i _ => x.pn - (intOf i).toNat)
          case atStart => exact ⟨0, Nat.zero_le _, rfl, HX.out.1, fun j hj => by omega⟩
          case round =>
            obtain ⟨b, hb, rfl, HYb⟩ := hrel
            by_cases hbl : b < x.pn
            · have hbl' : (b : Int) < (x.pn : Int) := by omega
              have hbh : b < x.hn := by have := HC.out; omega
              have hah : a < x.hn := by have := HC.out; omega
              have hbh' : (b : Int) < (x.hn : Int) := by omega
              have hah' : (a : Int) < (x.hn : Int) := by omega
              have HBb : Hid (Below w.heap.size w wr) := BA.out.trans (HYb.out.1.mono BA.out.size)
              have HLb : Hid (x.hL b ≤ 1048576 ∧ x.hL a ≤ 1048576) := ⟨HL.out.h.2 b hbh, HL.out.h.2 a hah⟩
              obtain ⟨-, -, -, b3⟩ := NB.out.below HYb.out.1
              obtain ⟨bh, oh, eh, ch⟩ := (HG.out.below HBb.out).h.at hbh
              rw [eh] at b3
              clear eh
              go_wp2_with fail
              refine (specValues_l (x.hA b) (x.hL b) _ (x.hH b) 3 a wr HLb.out.1 ((HG.out.below HBb.out).hi b hbh)).mono ?_
              rintro e w5 ⟨v5, rfl, o5, c5⟩
              obtain ⟨ta, tc, rfl, s5⟩ := o5.form
              have HY5 : Hid (Below wb.heap.size wb w5 ∧ ∀ b', b' < b → x.Two a b') := ⟨HYb.out.1.trans (c5.mono HYb.out.1.size), HYb.out.2⟩
              have HB5 : Hid (Below w.heap.size w w5) := HBb.out.trans (c5.mono HBb.out.size)
              have S5 : Hid (Sl w5 ta (valL (x.hH b) 3 a (x.hL b))) := s5
              clear o5 c5 s5 b3 ch HYb HBb
              obtain ⟨-, -, -, b3⟩ := NB.out.below HY5.out.1
              obtain ⟨bh', oh', eh', ch'⟩ := (HG.out.below HB5.out).h.at hah
              rw [eh'] at b3
              clear eh'
              go_wp2_with fail
              refine (specValues_l (x.hA a) (x.hL a) _ (x.hH a) 2 b w5 HLb.out.2 ((HG.out.below HB5.out).hi a hah)).mono ?_
              rintro e w6 ⟨v6, rfl, o6, c6⟩
              obtain ⟨sa, sc, rfl, s6⟩ := o6.form
              have HY6 : Hid (Below wb.heap.size wb w6 ∧ ∀ b', b' < b → x.Two a b') := ⟨HY5.out.1.trans (c6.mono HY5.out.1.size), HY5.out.2⟩
              have HB6 : Hid (Below w.heap.size w w6) := HB5.out.trans (c6.mono HB5.out.size)
              have S6 : Hid (Sl w6 ta (valL (x.hH b) 3 a (x.hL b)) ∧ Sl w6 sa (valL (x.hH a) 2 b (x.hL a))) := ⟨S5.out.below c6, s6⟩
              have hJl : a * x.pn + b < x.wn := by
                rw [HC.out.2.2.2]
                have : (a + 1) * x.pn ≤ x.pn * x.pn := Nat.mul_le_mul_right _ (by omega)
                rw [Nat.add_mul] at this
                omega
              have hJe : (a : Int) * (x.pn : Int) + (b : Int) = ((a * x.pn + b : Nat) : Int) := by rw [Int.natCast_add, Int.natCast_mul]
              have hm0 : 0 ≤ (a : Int) * (x.pn : Int) := Int.mul_nonneg (by omega) (by omega)
              have hm1 : (a : Int) * (x.pn : Int) ≤ 16 := by
                have := Int.mul_le_mul (show (a : Int) ≤ 4 by omega) hp4 (by omega) (by omega)
                omega
              have HT2 : Hid ((LWay (x.wH (a * x.pn + b)) (x.wL (a * x.pn + b)) (valL (x.hH a) 2 b (x.hL a)) (valL (x.hH b) 3 a (x.hL b)).length ∧ ∀ i, i < (valL (x.hH b) 3 a (x.hL b)).length → zi (valL (x.hH b) 3 a (x.hL b)) i = zi (valL (x.hH a) 2 b (x.hL a)) i) ↔ x.Two a b) := LWay.iff
              have htl : (valL (x.hH b) 3 a (x.hL b)).length ≤ 1048576 := Nat.le_trans (valL_le ..) HLb.out.1
              have hsl : (valL (x.hH a) 2 b (x.hL a)).length ≤ 1048576 := Nat.le_trans (valL_le ..) HLb.out.2
              have htl' : ((valL (x.hH b) 3 a (x.hL b)).length : Int) ≤ 1048576 := by omega
              generalize hJ : a * x.pn + b = J at *
              have hJl' : (J : Int) < (x.wn : Int) := by omega
              generalize valL (x.hH b) 3 a (x.hL b) = took at *
              generalize valL (x.hH a) 2 b (x.hL a) = sent at *
              have HIt : Hid (ItL w6 (x.wA J) (x.wL J) (x.wH J)) := (HG.out.below HB6.out).wi J hJl
              have HLJ : Hid (x.wL J ≤ 1048576) := HL.out.w.2 J hJl
              clear o6 c6 s6 b3 ch' HY5 HB5 S5 hJ
              obtain ⟨-, -, b2, -⟩ := NB.out.below HY6.out.1
              obtain ⟨bw, ow, ew, cw⟩ := (HG.out.below HB6.out).w.at hJl
              rw [ew] at b2
              clear ew
              go_wp2_with fail
              refine (l4Way_any (x.wA J) (x.wL J) _ (x.wH J) sa sc sent took.length w6 HLJ.out HIt.out hsl S6.out.2 htl).mono ?_
              rintro e w7 ⟨rfl, c7⟩
              have HY7 : Hid (Below wb.heap.size wb w7 ∧ ∀ b', b' < b → x.Two a b') := ⟨HY6.out.1.trans (c7.mono HY6.out.1.size), HY6.out.2⟩
              have HB7 : Hid (Below w.heap.size w w7) := HB6.out.trans (c7.mono HB6.out.size)
              have S7 : Hid (Sl w7 ta took ∧ Sl w7 sa sent) := ⟨S6.out.1.below c7, S6.out.2.below c7⟩
              clear c7 b2 cw HY6 HB6 S6 hm0 hm1 hJe
              by_cases hlw : LWay (x.wH J) (x.wL J) sent took.length
              case neg =>
                have HN : Hid (x.y.okB = false) := Sy.okB_false fun h => hlw (HT2.out.2 (sy_way h hal hbl)).1
                rw [pB_false hlw]
                clear hlw
                go_wp2
                go_ret
                rw [HN.out]
                exact ⟨rfl, HB7.out⟩
              have HLW : Hid (LWay (x.wH J) (x.wL J) sent took.length) := hlw
              rw [pB_true hlw]
              clear hlw
              go_wp2_with fail
              go_loopw [12] (fun i wr => ∃ j : Nat, j ≤ took.length ∧ i = .int .i64 j ∧ Hid (Below w7.heap.size w7 wr ∧ ∀ i, i < j → zi took i = zi sent i)) (fun i _ => took.length - (intOf i).toNat)
              case atStart => exact ⟨0, Nat.zero_le _, rfl, Below.refl _ _, fun j hj => by omega⟩
              case round =>
                obtain ⟨j, hj, rfl, HQ⟩ := hrel
                have HBq : Hid (Below w.heap.size w wr ∧ Below wb.heap.size wb wr) := ⟨HB7.out.trans (HQ.out.1.mono HB7.out.size), HY7.out.1.trans (HQ.out.1.mono HY7.out.1.size)⟩
                by_cases hjl : j < took.length
                · have hjs : j < sent.length := by have := HLW.out.ln; omega
                  obtain ⟨bq, oq, rfl, zq, cq⟩ := (S7.out.1.below HQ.out.1).at hjl
                  obtain ⟨br, or', rfl, zr, cr⟩ := (S7.out.2.below HQ.out.1).at hjs
                  have hjl' : (j : Int) < (took.length : Int) := by omega
                  have hjs' : (j : Int) < (sent.length : Int) := by omega
                  rcases Bool.eq_false_or_eq_true (zi took j != zi sent j) with t6 | t6
                  · have HN : Hid (x.y.okB = false) := Sy.okB_false fun h => by
                      have := (HT2.out.2 (sy_way h hal hbl)).2 j hjl
                      rw [this] at t6
                      simp at t6
                    clear HQ
                    go_wp2_with fail
                    go_quiet (fail)
                    go_wp2
                    go_ret
                    rw [HN.out]
                    exact ⟨rfl, below_drewN HBq.out.1 _⟩
                  · have HQ' : ∀ nq, Hid (Below w7.heap.size w7 (wr.drewN nq) ∧ ∀ i, i < j + 1 → zi took i = zi sent i) := fun nq => ⟨below_drewN HQ.out.1 _, fun i hi => by
                      by_cases e : i = j
                      · subst e
                        simpa using t6
                      · exact HQ.out.2 i (by omega)⟩
                    have HQQ : Hid (∀ nq, Hid (Below w7.heap.size w7 (wr.drewN nq) ∧ ∀ i, i < j + 1 → zi took i = zi sent i)) := HQ'
                    clear HQ HQ'
                    go_wp2_with fail
                    go_quiet (fail)
                    go_wp2
                    go_roundw
                    case rel => exact ⟨j + 1, by omega, by go_num, HQQ.out _⟩
                    case measure => simp [intOf]; omega
                · have hjl' : ¬ (j : Int) < (took.length : Int) := by omega
                  have HYn : Hid (Below wb.heap.size wb wr ∧ ∀ b', b' < b + 1 → x.Two a b') := ⟨HBq.out.2, fun b' hb' => by
                    by_cases e : b' = b
                    · subst e
                      exact HT2.out.1 ⟨HLW.out, fun i hi => HQ.out.2 i (by omega)⟩
                    · exact HY7.out.2 b' (by omega)⟩
                  clear HQ
                  go_wp2
                  go_roundw
                  case rel => exact ⟨b + 1, by omega, by go_num, HYn.out⟩
                  case measure => simp [intOf]; omega
            · have HX' : Hid (Below wb.heap.size wb wr ∧ ∀ a', a' < a + 1 → ∀ b, b < x.pn → x.Two a' b) := ⟨HYb.out.1, fun a' ha' b' hb' => by
                by_cases e : a' = a
                · subst e
                  exact HYb.out.2 b' (by omega)
                · exact HX.out.2 a' (by omega) b' hb'⟩
              have hbl' : ¬ (b : Int) < (x.pn : Int) := by omega
              clear HYb HX
              go_wp2
              go_roundw
              case rel => exact ⟨a + 1, by omega, by go_num, HX'.out⟩
              case measure => simp [intOf]; omega
        · have HTwo : Hid (∀ a, a < x.pn → ∀ b, b < x.pn → x.Two a b) := fun a' ha' b hb => HX.out.2 a' (by omega) b hb
          have hal' : ¬ (a : Int) < (x.pn : Int) := by omega
          have HBf : Hid (Below w.heap.size w wr) := BA.out.trans (HX.out.1.mono BA.out.size)
          obtain ⟨b0, b1, b2, b3⟩ := NB.out.below HX.out.1
          have HPe : Hid x.y.hs.Peers := fun p hp i hi => ⟨rp_peer (repO_some (HOne.out p hp).st).2.2 i hi, (HOne.out p hp).pe i hi⟩
          have e4 : x.hn = x.pn := HC.out.2.2.1
          have H2 : Hid (∀ i, i < x.y.hs.n → x.y.hs.l i ≤ 200) := fun p hp => (repO_some (HOne.out p hp).st).2.1
          have HCp : Hid (∀ i, i < x.y.hs.n → x.y.hs.l i ≤ x.hC i) := fun p hp => HCap.out p (by rw [e4]; exact hp)
          have HHE : Hid (HisE wr x.ha x.hA x.hC x.y.hs) := (HG.out.below HBf.out).his e4
          have HE4 : Hid (x.hn = x.pn) := e4
          clear HX e4
          rw [HE4.out] at b3
          go_wp2_with fail
          refine (l4Order_any x.pa x.pn x.pc x.sa x.sn x.sc x.wa x.wn x.wc x.ha x.hc x.hA x.hC x.y.hs wr HHE.out HCp.out HC.out.1.1 HC.out.1.2 HPe.out H2.out).mono ?_
          rintro e w9 ⟨rfl, b9⟩
          have HN : Hid (qB x.y.hs.Row = x.y.okB) := by
            show qB x.y.hs.Row = x.y.okB
            by_cases hr : x.y.hs.Row
            · rw [qB_true hr, Sy.okB_true (sy_two HC.out HOne.out HTwo.out hr)]
            · rw [qB_false hr, Sy.okB_false fun h => hr h.ro]
          have B9 : Hid (Below w.heap.size w w9) := HBf.out.trans (b9.mono HBf.out.size)
          rw [HN.out]
          clear b9 HN b0 b1 b2 b3
          go_wp2
          go_ret
          exact ⟨rfl, B9.out⟩

end Go.Proofs.YtkpbdcahpkpobabGreatDoor

namespace Go.Proofs.YtkpbdcahpkpobabGreatDoor
open Go.ChangeShapes Go.WideShapes Go.ChangeAt Go.RowKit Go.Deep Go.Sort

theorem IsSys.g2 {w : World} {lo hi : Nat} {x : SysIn} {v : Value} (o : IsSys w lo hi x v) : ∃ x' : SysIn, v = x'.v ∧ SysG w x' ∧ x'.y = x.y ∧ ∀ i, i < x'.hn → x'.hL i ≤ x'.hC i := by
  obtain ⟨D1, D2, D3, D4, b1, vs, b3, b4, h1, h2, h3, o⟩ := o
  obtain ⟨q1, q2, q3, q4, -⟩ := o.hi
  have hst : ∀ i, i < x.sn → ∃ t : Option Addr × Nat × Option Addr × Nat, vs i = stV (x.sS i).p t.1 (x.sS i).rs.length t.2.1 t.2.2.1 (x.sS i).os.length t.2.2.2 (x.sS i).c ∧ w.cell? ⟨D2, i * 4, none⟩ = some (.int .i64 (x.sS i).p) ∧ w.cell? ⟨D2, i * 4 + 1, none⟩ = some (.slice t.1 (x.sS i).rs.length t.2.1) ∧ w.cell? ⟨D2, i * 4 + 2, none⟩ = some (.slice t.2.2.1 (x.sS i).os.length t.2.2.2) ∧ w.cell? ⟨D2, i * 4 + 3, none⟩ = some (.int .i64 (x.sS i).c) := by
    intro i hi
    obtain ⟨ra, rc, oa, oc, e, c0, c1, c2, c3⟩ := o.ss.cel i hi
    exact ⟨(ra, rc, oa, oc), e, c0, c1, c2, c3⟩
  have inh : Inhabited (Option Addr × Nat × Option Addr × Nat) := ⟨(none, 0, none, 0)⟩
  obtain ⟨t, ht⟩ := Go.Deep.choose_lt hst
  refine ⟨⟨some ⟨D1, 0, none⟩, x.pn, x.pn, fun i => some ⟨b1 i, 0, none⟩, x.pL, x.pL, x.pH, some ⟨D2, 0, none⟩, x.sn, x.sn, fun i => ⟨(x.sS i).p, (t i).1, (t i).2.1, (x.sS i).rs, (t i).2.2.1, (t i).2.2.2, (x.sS i).os, (x.sS i).c⟩, some ⟨D3, 0, none⟩, x.wn, x.wn, fun i => some ⟨b3 i, 0, none⟩, x.wL, x.wL, x.wH, some ⟨D4, 0, none⟩, x.hn, x.hn, fun i => some ⟨b4 i, 0, none⟩, x.hL, x.hL, x.hH⟩, o.val, ?_, rfl, fun i _ => Nat.le_refl _⟩
  have l1 := o.pp.lt
  have l2 := o.ss.lt
  have l3 := o.ww.lt
  have l4 := o.hh.lt
  refine ⟨.inr ⟨D1, 0, rfl, by omega, fun i hi => ?_⟩, fun i hi => ⟨b1 i, rfl, Nat.lt_of_lt_of_le (o.pp.bd i hi).2 o.pp.le, o.pp.row i hi⟩, ⟨.inr ⟨D2, 0, rfl, by omega, fun i hi => ?_⟩, fun i hi => ?_⟩, .inr ⟨D3, 0, rfl, by omega, fun i hi => ?_⟩, fun i hi => .inr ⟨b3 i, 0, rfl, Nat.lt_of_lt_of_le (o.ww.bd i hi).2 o.ww.le, o.ww.row i hi⟩, .inr ⟨D4, 0, rfl, by omega, fun i hi => ?_⟩, fun i hi => .inr ⟨b4 i, 0, rfl, Nat.lt_of_lt_of_le (o.hh.bd i hi).2 o.hh.le, o.hh.row i hi⟩⟩
  · have := o.pp.cel i hi
    simpa using this
  · have := (ht i hi).2
    simpa using this
  · have h4 := o.ss.own i hi
    rw [(ht i hi).1] at h4
    exact ⟨h4.parts.1.slOf, h4.parts.2.1.slOf⟩
  · have := o.ww.cel i hi
    simpa using this
  · have := o.hh.cel i hi
    simpa using this
theorem SysIn.len_of {x x' : SysIn} (hs : x.size ≤ 1048576) (hy : x'.y = x.y) : x'.Len := by
  have l := SysIn.lens hs
  have e1 : x'.pn = x.pn := congrArg Sy.pn hy
  have e2 : x'.pL = x.pL := congrArg Sy.pL hy
  have e3 : x'.sn = x.sn := congrArg Sy.sn hy
  have e4 : x'.sS = x.sS := congrArg Sy.sS hy
  have e5 : x'.wn = x.wn := congrArg Sy.wn hy
  have e6 : x'.wL = x.wL := congrArg Sy.wL hy
  have e7 : x'.hn = x.hn := congrArg Sy.hn hy
  have e8 : x'.hL = x.hL := congrArg Sy.hL hy
  refine ⟨⟨by omega, fun i hi => ?_⟩, ⟨by omega, fun i hi => ?_⟩, ⟨by omega, fun i hi => ?_⟩, ⟨by omega, fun i hi => ?_⟩⟩
  · rw [e2]
    exact sum_le l.1.2 i (by omega)
  · have h1 := SysIn.lensS hs i (by omega)
    have h2 : x'.sS i = x.sS i := by rw [e4]
    have h3 : (x'.sQ i).rs = (x.sQ i).rs := congrArg S4.rs h2
    have h4 : (x'.sQ i).os = (x.sQ i).os := congrArg S4.os h2
    rw [h3, h4]
    exact h1
  · rw [e6]
    exact sum_le l.2.2.1.2 i (by omega)
  · rw [e8]
    exact sum_le l.2.2.2.2 i (by omega)

/-- What came in stands in its box; nothing older has turned. -/
structure Px (W : World) (x : SysIn) (w : World) : Prop where
  be : Below W.heap.size W w
  bx : BoxC w W.heap.size (.slice x.pa x.pn x.pc) (.slice x.sa x.sn x.sc) (.slice x.wa x.wn x.wc) (.slice x.ha x.hn x.hc)
  lt : W.heap.size < w.heap.size
theorem Px.below {W : World} {x : SysIn} {w w' : World} (h : Px W x w) (hb : Below w.heap.size w w') : Px W x w' := ⟨h.be.trans (hb.mono (Nat.le_of_lt h.lt)), h.bx.below hb, Nat.lt_of_lt_of_le h.lt hb.size⟩

set_option maxRecDepth 100000 in
set_option maxHeartbeats 4000000 in
theorem sysOkLaw_small (x : SysIn) (W : World) (hs : x.size ≤ 1048576) (hA : x.Ok W) (hV : W.cell? ⟨0, 0, none⟩ = some (.iface 228 (.agg #[.pointer (some ⟨1, 154, none⟩)]))) :
    Calls Tryz.prog 3 #[sysV x.pa x.pn x.pc x.sa x.sn x.sc x.wa x.wn x.wc x.ha x.hn x.hc] W fun e w' => e = .returned (.bool true) ∧ Below W.heap.size W w' := by
  have HS : Hid (x.size ≤ 1048576) := hs
  have HA : Hid (x.Ok W) := hA
  have HV : Hid (W.cell? ⟨0, 0, none⟩ = some (.iface 228 (.agg #[.pointer (some ⟨1, 154, none⟩)]))) := hV
  have HV0 : Hid (0 < W.heap.size) := World.block_lt_of_cell? W _ hV
  have hsz : ¬ (1048576 - (x.size : Int) < 0) := by omega
  have X0 : Hid (Px W x (W.alloc (.cells #[.slice x.pa x.pn x.pc, .slice x.sa x.sn x.sc, .slice x.wa x.wn x.wc, .slice x.ha x.hn x.hc] 27))) := ⟨below_allocS _ _, BoxC.new W _ _ _ _ _, by simp⟩
  clear hs hA hV
  generalize hT : x.y.okB = T
  have HT : Hid (x.y.okB = T) := hT
  clear hT
  go_enter Tryz.func3, Tryz.ntmps3
  go_wp2_with fail
  generalize W.alloc (.cells #[.slice x.pa x.pn x.pc, .slice x.sa x.sn x.sc, .slice x.wa x.wn x.wc, .slice x.ha x.hn x.hc] 27) = wA at *
  refine (szSys_small x wA (HA.out.row.below X0.out.be) HS.out).mono ?_
  rintro e w0 ⟨rfl, b0⟩
  have X1 : Hid (Px W x w0) := X0.out.below b0
  clear b0 X0
  obtain ⟨-, ⟨p0, p1, p2, p3⟩, lt⟩ := X1.out
  go_wp2_with fail
  clear p0 p1 p2 p3 lt
  refine (toSys_any x W w0 HS.out HA.out X1.out.be).mono ?_
  rintro e w1 ⟨v1, rfl, o1, b1⟩
  obtain ⟨x1, rfl, g1, y1, cp1⟩ := o1.g2
  have O1 : Hid (SysG w1 x1 ∧ x1.y = x.y ∧ ∀ i, i < x1.hn → x1.hL i ≤ x1.hC i) := ⟨g1, y1, cp1⟩
  have X2 : Hid (Px W x w1) := X1.out.below b1
  clear b1 X1 o1 g1 y1 cp1
  go_wp2_with fail
  refine (specSysOk_any x1 w1 O1.out.1 (SysIn.len_of HS.out O1.out.2.1) O1.out.2.2).mono ?_
  rintro e w2 ⟨rfl, b2⟩
  have X3 : Hid (Px W x w2) := X2.out.below b2
  rw [O1.out.2.1, HT.out]
  clear b2 X2 O1
  obtain ⟨-, ⟨p0, p1, p2, p3⟩, lt⟩ := X3.out
  go_wp2_with fail
  clear p0 p1 p2 p3 lt
  refine (toSys_any x W w2 HS.out HA.out X3.out.be).mono ?_
  rintro e w3 ⟨v3, rfl, o3, b3⟩
  obtain ⟨x3, rfl, g3, y3, cp3⟩ := o3.g2
  have ba : Below w3.heap.size w3 (w3.alloc (.cells #[.slice x3.pa x3.pn x3.pc, .slice x3.sa x3.sn x3.sc, .slice x3.wa x3.wn x3.wc, .slice x3.ha x3.hn x3.hc] 35)) := below_allocS _ _
  have X4 : Hid (Px W x w3) := X3.out.below b3
  have Xa : Hid (Px W x (w3.alloc (.cells #[.slice x3.pa x3.pn x3.pc, .slice x3.sa x3.sn x3.sc, .slice x3.wa x3.wn x3.wc, .slice x3.ha x3.hn x3.hc] 35))) := X4.out.below ba
  have Sa : Hid (IsSys (w3.alloc (.cells #[.slice x3.pa x3.pn x3.pc, .slice x3.sa x3.sn x3.sc, .slice x3.wa x3.wn x3.wc, .slice x3.ha x3.hn x3.hc] 35)) w2.heap.size w3.heap.size x x3.v) := o3.below ba (Nat.le_refl _)
  have Ga : Hid (SysG (w3.alloc (.cells #[.slice x3.pa x3.pn x3.pc, .slice x3.sa x3.sn x3.sc, .slice x3.wa x3.wn x3.wc, .slice x3.ha x3.hn x3.hc] 35)) x3 ∧ x3.y = x.y) := ⟨g3.below ba, y3⟩
  have Qa : Hid (BoxC (w3.alloc (.cells #[.slice x3.pa x3.pn x3.pc, .slice x3.sa x3.sn x3.sc, .slice x3.wa x3.wn x3.wc, .slice x3.ha x3.hn x3.hc] 35)) w3.heap.size (.slice x3.pa x3.pn x3.pc) (.slice x3.sa x3.sn x3.sc) (.slice x3.wa x3.wn x3.wc) (.slice x3.ha x3.hn x3.hc) ∧ w3.heap.size < (w3.alloc (.cells #[.slice x3.pa x3.pn x3.pc, .slice x3.sa x3.sn x3.sc, .slice x3.wa x3.wn x3.wc, .slice x3.ha x3.hn x3.hc] 35)).heap.size) := ⟨BoxC.new w3 _ _ _ _ _, by simp⟩
  clear b3 X3 o3 X4 ba g3 y3 cp3
  go_wp2_with fail
  generalize w3.alloc (.cells #[.slice x3.pa x3.pn x3.pc, .slice x3.sa x3.sn x3.sc, .slice x3.wa x3.wn x3.wc, .slice x3.ha x3.hn x3.hc] 35) = wB at *
  refine (implSysOk_any x3 wB Ga.out.1 (SysIn.len_of HS.out Ga.out.2) ((Xa.out.be.cell (p := ⟨0, 0, none⟩) HV0.out).trans HV.out)).mono ?_
  rintro e w5 ⟨rfl, b5⟩
  rw [Ga.out.2, HT.out]
  have S5 : Hid (IsSys w5 w2.heap.size w3.heap.size x x3.v) := Sa.out.below b5 (Nat.le_of_lt Qa.out.2)
  have X6 : Hid (Px W x w5) := Xa.out.below b5
  have Q5 : Hid (BoxC w5 w3.heap.size (.slice x3.pa x3.pn x3.pc) (.slice x3.sa x3.sn x3.sc) (.slice x3.wa x3.wn x3.wc) (.slice x3.ha x3.hn x3.hc) ∧ w3.heap.size < w5.heap.size) := ⟨Qa.out.1.below b5, Nat.lt_of_lt_of_le Qa.out.2 b5.size⟩
  clear b5 Xa Sa Qa Ga HT
  obtain ⟨-, ⟨p0, p1, p2, p3⟩, lt⟩ := X6.out
  obtain ⟨⟨q0, q1, q2, q3⟩, lq⟩ := Q5.out
  go_wp2_with fail
  first | (go_region_with (first | (go_at_call 10; refine (toSys_any x W _ HS.out HA.out (by exact X6.out.be.drew)).mono ?_; rintro e w6 ⟨v6, rfl, o6, b6⟩; have q6 : Below w5.heap.size w5 w6 := (Below.refl w5.heap.size w5).drew.trans b6; have T6 : Hid (∃ l, IsSys w6 l w6.heap.size x v6) := ⟨_, o6⟩; obtain ⟨r0, r1, r2, r3⟩ := Q5.out.1.below q6; have Q6 : Hid (Below w5.heap.size w5 w6) := q6; clear o6 b6 q6) | (go_at_call 12; refine (eqSys_same x w2.heap.size w3.heap.size T6.out.choose _ _ v6 w6 HS.out (S5.out.below Q6.out (by obtain ⟨_, _, _, _, _, _, _, _, _, _, _, q⟩ := S5.out; exact q.hi.2.2.2.1)) T6.out.choose_spec).mono ?_; rintro e w7 ⟨rfl, b7⟩; have Q7 : Hid (Below w5.heap.size w5 w7) := Q6.out.trans (b7.mono Q6.out.size); clear b7))) | fail
  all_goals
    clear r0 r1 r2 r3 p0 p1 p2 p3 lt q0 q1 q2 q3 lq T6 Q6
    have X8 : Hid (Px W x w7) := X6.out.below Q7.out
    clear Q7 X6 S5 Q5
    go_wp2
    go_ret
    exact ⟨rfl, X8.out.be⟩

set_option maxRecDepth 100000 in
set_option maxHeartbeats 1000000 in
theorem sysOkLaw_great (x : SysIn) (W : World) (hr : x.Row W) (hm : x.Max) (hs : 1048576 < x.size) :
    Calls Tryz.prog 3 #[sysV x.pa x.pn x.pc x.sa x.sn x.sc x.wa x.wn x.wc x.ha x.hn x.hc] W fun e w' => e = .returned (.bool true) ∧ Below W.heap.size W w' := by
  have HR : Hid (x.Row W) := hr
  have HM : Hid x.Max := hm
  have HS : Hid (1048576 < x.size) := hs
  clear hr hm hs
  go_enter Tryz.func3, Tryz.ntmps3
  go_wp2_with fail
  refine (szSys_great x _ (HR.out.below (below_allocS _ _)) HM.out HS.out).mono ?_
  rintro e w0 ⟨rfl, b0⟩
  have B0 : Hid (Below W.heap.size W w0) := (below_allocS _ _).trans (b0.mono (by simp))
  clear b0
  go_wp2
  go_ret
  exact ⟨rfl, B0.out⟩

end Go.Proofs.YtkpbdcahpkpobabGreatDoor
