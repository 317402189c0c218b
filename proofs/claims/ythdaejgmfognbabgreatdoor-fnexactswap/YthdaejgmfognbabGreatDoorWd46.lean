/- The walks of the model's cuts. -/
import Derived.Test.YthdaejgmfognbabGreatDoorWd0
import Derived.Test.YthdaejgmfognbabGreatDoorWd32
import Derived.Test.YthdaejgmfognbabGreatDoorWd43
import Derived.Test.YthdaejgmfognbabGreatDoorWd44
import Derived.Deep.LoopGhost
import Derived.WalkMore
import Derived.Test.YthdaejgmfognbabGreatDoorWd41
import Derived.Test.YthdaejgmfognbabGreatDoorWd31
import Derived.Test.YthdaejgmfognbabGreatDoorWd37
import Derived.Lib.QuietBelow
import Derived.Deep.RegionWith
import Derived.Deep.RegionLaw
import Derived.BigQuiet
namespace Go.Proofs.YthdaejgmfognbabGreatDoor
set_option maxRecDepth 100000
set_option maxHeartbeats 4000000
open Go.RowKit
def tnD (f : Nat -> Nat) : Nat -> Nat -> Nat
 | 0 => fun _ => 0
 | k + 1 => up (tnD f k) (f k)
theorem tnD_succ (f : Nat -> Nat) (k : Nat) : tnD f (k + 1) = up (tnD f k) (f k) := rfl
def rwF (h : Nat -> Wo2) (k : Nat) : Nat := (h k).m.toNat
def Hs.RwAt (y : Hs) (h : Nat -> Wo2) (k : Nat) : Prop := ∃ p, p < y.n /\ (h k).m = (p : Nat) /\ (h k).v = (tnD (rwF h) k p : Nat) /\ y.Can (tnD (rwF h) k) p
def Hs.RwOk (y : Hs) (h : Nat -> Wo2) (n : Nat) : Prop := (∀ k, k < n -> y.RwAt h k) /\ y.All (tnD (rwF h) n)
theorem Hs.rw_put {y : Hs} {h : Nat -> Wo2} : ∀ {k : Nat}, (∀ j, j < k -> y.RwAt h j) -> y.Put (tnD (rwF h) k)
 | 0, _ => .start
 | k + 1, hh => by
  obtain ⟨p, hp, e1, e2, e3⟩ := hh k (Nat.lt_succ_self _)
  have ep : rwF h k = p := by rw [rwF, e1]; exact Int.toNat_natCast p
  rw [tnD_succ, ep]
  exact .next (Hs.rw_put fun j hj => hh j (Nat.lt_succ_of_lt hj)) hp e3
theorem Hs.rw_hit {y : Hs} {h : Nat -> Wo2} {k p : Nat} (hp : p < y.n) (e1 : (h k).m = (p : Nat)) (e2 : (h k).v = (tnD (rwF h) k p : Nat)) (hc : y.Can (tnD (rwF h) k) p) : y.RwAt h k /\ tnD (rwF h) (k + 1) = up (tnD (rwF h) k) p := by
 refine ⟨⟨p, hp, e1, e2, hc⟩, ?_⟩
 have ep : rwF h k = p := by rw [rwF, e1]; exact Int.toNat_natCast p
 rw [tnD_succ, ep]
theorem Hs.rw_no {y : Hs} {h : Nat -> Wo2} {k n : Nat} (hk : k < n) (hn : ¬ y.RwAt h k) : ¬ y.RwOk h n := fun hh => hn (hh.1 k hk)
noncomputable def rwB (y : Sy) (h : Nat -> Wo2) (n : Nat) : Bool := y.okB && qB (y.hs.RwOk h n)
def Hs.Least (y : Hs) (d : Nat -> Nat) (p : Nat) : Prop := p < y.n /\ y.Can d p /\ ∀ j, j < p -> ¬ y.Can d j
theorem Hs.Least.one {y : Hs} {d : Nat -> Nat} {p q : Nat} (h : y.Least d p) (h' : y.Least d q) : p = q := by
 rcases Nat.lt_trichotomy p q with e | e | e
 ·exact absurd h.2.1 (h'.2.2 p e)
 ·exact e
 ·exact absurd h'.2.1 (h.2.2 q e)
open Classical in
noncomputable def Hs.lst (y : Hs) (d : Nat -> Nat) : Nat := if h : ∃ p, y.Least d p then h.choose else 0
theorem Hs.Least.lst {y : Hs} {d : Nat -> Nat} {p : Nat} (h : y.Least d p) : y.lst d = p := by
 unfold Hs.lst
 have he : ∃ p, y.Least d p := ⟨p, h⟩
 rw [dif_pos he]
 exact he.choose_spec.one h
noncomputable def Hs.gr (y : Hs) : Nat -> Nat -> Nat
 | 0 => fun _ => 0
 | k + 1 => up (y.gr k) (y.lst (y.gr k))
noncomputable def Hs.gf (y : Hs) (k : Nat) : Nat := y.lst (y.gr k)
open Go.ChangeShapes Go.WideShapes Go.ChangeAt Go.Deep Go.Sort
theorem eql_who (p i q j : Int) (w : World) : (binOp .eql 57 (woV p i) (woV q j)).run Tryz.prog w = .ok (.bool (spEq p i q j)) w := by
 rw [run_eql_struct, show (10000 : Nat) = 9998 + 1 + 1 from rfl, run_equalIn_agg w (9998 + 1) 57 _ _ (by kernel_rfl) (by kernel_rfl)]
 simp only [spEq]
 by_cases h1 : p = q <;> by_cases h2 : i = j <;> simp [go_sem, h1, h2]
def WoL (w : World) (a : Option Addr) (len : Nat) (h : Nat -> Wo2) : Prop := len = 0 \/ ∃ b off, a = some ⟨b, off, none⟩ /\ b < w.heap.size /\ WoAt w b off len h
theorem WoL.below {w w' : World} {a : Option Addr} {len : Nat} {h : Nat -> Wo2} (hh : WoL w a len h) (hb : Below w.heap.size w w') : WoL w' a len h := by
 rcases hh with e | ⟨b, off, e, h1, h2⟩
 ·exact .inl e
 ·exact .inr ⟨b, off, e, zL h1 hb.size, h2.below hb h1⟩
theorem WoL.at {w : World} {a : Option Addr} {len : Nat} {h : Nat -> Wo2} (hh : WoL w a len h) {k : Nat} (hk : k < len) : ∃ b off, a = some ⟨b, off, none⟩ /\ b < w.heap.size /\ w.cell? ⟨b, off + k * 2, none⟩ = some (.int .i64 (h k).m) /\ w.cell? ⟨b, off + k * 2 + 1, none⟩ = some (.int .i64 (h k).v) := by
 rcases hh with e | ⟨b, off, e, h1, h2⟩
 ·omega
 ·exact ⟨b, off, e, h1, h2 k hk⟩
structure Pw (w0 : World) (X : Nat) (ha : Option Addr) (hc : Nat) (y : Hs) (d : Nat -> Nat) (wr : World) : Prop where
 be : Below w0.heap.size w0 wr
 hq : HisQ wr X ha hc y d
theorem Pw.below {w0 : World} {X : Nat} {ha : Option Addr} {hc : Nat} {y : Hs} {d : Nat -> Nat} {wr w' : World} (h : Pw w0 X ha hc y d wr) (hb : Below wr.heap.size wr w') : Pw w0 X ha hc y d w' := ⟨h.be.trans (hb.mono h.be.size), h.hq.below hb⟩
theorem Pw.turn {w0 : World} {X : Nat} {ha : Option Addr} {hc : Nat} {y : Hs} {d d' : Nat -> Nat} {wr w' : World} (h : Pw w0 X ha hc y d wr) (hX : w0.heap.size <= X) (t : Touch (fun b => b = X) wr w') (hq : HisQ w' X ha hc y d') : Pw w0 X ha hc y d' w' := ⟨h.be.trans (t.below h.be.size fun b e => by omega), hq⟩
theorem allPut_q (X : Nat) (ha : Option Addr) (hc : Nat) (hA : Nat -> Option Addr) (hC : Nat -> Nat) (y : Hs) (d : Nat -> Nat) (w : World) (hE : HisE w ha hA hC y) (hP : HisQ w X ha hc y d) (h4 : y.n <= 4) (hl : ∀ i, i < y.n -> y.l i <= 200) (hd : ∀ i, d i <= y.l i) :
  Calls Tryz.prog 114 #[.pointer (some ⟨X, 0, none⟩)] w fun e w' => e = .returned (.bool (qB (y.All d))) /\ Below w.heap.size w w' := by
 have HE : Hid (HisE w ha hA hC y) := hE
 have HP : Hid (HisQ w X ha hc y d) := hP
 have HH : Hid ((∀ i, i < y.n -> y.l i <= 200) /\ ∀ i, d i <= y.l i) := ⟨hl, hd⟩
 have hn : (y.n : Int) <= 4 := by omega
 obtain ⟨c4, -, -, -⟩ := hP
 clear hE hl hd
 go_enter Tryz.func114, Tryz.ntmps114
 go_wp2_with fail
 clear c4
 go_loopw [10] (fun i wr => ∃ k : Nat, k <= y.n /\ i = .int .i64 k /\ Below w.heap.size w wr /\ Hid (∀ j, j < k -> d j = y.l j)) (fun i _ => y.n - (intOf i).toNat)
 case atStart => exact ⟨0, Nat.zero_le _, rfl, Below.refl _ _, fun j hj => by omega⟩
 case round =>
  obtain ⟨k, hk, rfl, hbw, HZ⟩ := hrel
  by_cases hlt : k < y.n
  ·have hlt' : (k : Int) < (y.n : Int) := by omega
   have hk4 : (k : Int) < 4 := by omega
   obtain ⟨bh, oh, eh, ch⟩ := (HE.out.below hbw).row.at hlt
   have pk := (HP.out.below hbw).pt k (by omega)
   have hd' : (d k : Int) <= (y.l k : Int) := by have := HH.out.2 k; omega
   rw [eh]
   by_cases hs : d k < y.l k
   ·have hs' : (d k : Int) < (y.l k : Int) := by omega
    have HN : Hid (qB (y.All d) = false) := qB_false fun h => by have := h k hlt; omega
    clear HZ
    go_wp2
    go_ret
    rw [HN.out]
    exact ⟨rfl, hbw⟩
   ·have hs' : ¬ (d k : Int) < (y.l k : Int) := by omega
    have HZ' : Hid (∀ j, j < k + 1 -> d j = y.l j) := fun j hj => by
     by_cases e : j = k
     ·subst e
      omega
     ·exact HZ.out j (by omega)
    clear HZ
    go_wp2
    go_roundw
    case rel => exact ⟨k + 1, by omega, by go_num, hbw, HZ'.out⟩
    case measure => simp [intOf]; omega
  ·have HN : Hid (qB (y.All d) = true) := qB_true fun p hp => HZ.out p (by omega)
   clear HZ
   go_wp2
   go_ret
   rw [HN.out]
   exact ⟨rfl, hbw⟩
theorem puts_any (X : Nat) (ha : Option Addr) (hc : Nat) (hA : Nat -> Option Addr) (hC : Nat -> Nat) (y : Hs) (la : Option Addr) (n lc : Nat) (h : Nat -> Wo2) (w0 w : World) (hE : HisE w0 ha hA hC y) (hb : Below w0.heap.size w0 w) (hX : w0.heap.size <= X) (hP : HisQ w X ha hc y (fun _ => 0)) (h4 : y.n <= 4) (hp : y.Peers) (hl : ∀ i, i < y.n -> y.l i <= 200) (hW : WoL w0 la n h) (hn : n <= 1048576) :
  Calls Tryz.prog 67 #[.pointer (some ⟨X, 0, none⟩), .slice la n lc] w fun e w' => e = .returned (.bool (qB (y.RwOk h n))) /\ Below w0.heap.size w0 w' := by
 have HE : Hid (∀ wx, Below w0.heap.size w0 wx -> HisE wx ha hA hC y) := fun wx hb => hE.below hb
 have HH : Hid (y.Peers /\ (∀ i, i < y.n -> y.l i <= 200) /\ w0.heap.size <= X /\ y.n <= 4) := ⟨hp, hl, hX, h4⟩
 have HW : Hid (∀ wx, Below w0.heap.size w0 wx -> WoL wx la n h) := fun wx hb => hW.below hb
 have hn' : (n : Int) <= 1048576 := by omega
 have hy4 : (y.n : Int) <= 4 := by omega
 have HP0 : Hid (Pw w0 X ha hc y (fun _ => 0) w) := ⟨hb, hP⟩
 have heq := eql_who
 clear hE hb hX hP h4 hp hl hW hn
 go_enter Tryz.func67, Tryz.ntmps67
 go_wp2
 go_step3
 go_wp2
 go_step3
 go_wp2_with fail
 go_loopg [9] n (fun g i wr => ∃ k : Nat, k <= n /\ g = n - k /\ i = .int .i64 k /\ Hid (Pw w0 X ha hc y (tnD (rwF h) k) wr /\ ∀ j, j < k -> y.RwAt h j))
 case atStart => exact ⟨0, Nat.zero_le _, rfl, rfl, HP0.out, fun j hj => by omega⟩
 case round =>
  clear HP0
  obtain ⟨k, hk, hgk, rfl, HF⟩ := hrel
  have HGk : Hid (gk = n - k) := hgk
  clear hgk
  by_cases hlt : k < n
  case neg =>
   have HKn : Hid (k = n) := by show k = n; omega
   go_wp2_with fail
   refine (allPut_q X ha hc hA hC y _ _ (HE.out _ HF.out.1.be) HF.out.1.hq HH.out.2.2.2 HH.out.2.1 (Hs.rw_put HF.out.2).le).mono ?_
   rintro e w1 ⟨rfl, b1⟩
   have HR : Hid (qB (y.All (tnD (rwF h) k)) = qB (y.RwOk h n) /\ Below w0.heap.size w0 w1) := by
    refine ⟨?_, (HF.out.1.below b1).be⟩
    have e := HKn.out
    have h9 := HF.out.2
    rw [e] at h9 ⊢
    by_cases hA' : y.All (tnD (rwF h) n)
    ·rw [qB_true hA', qB_true ⟨h9, hA'⟩]
    ·rw [qB_false hA', qB_false fun h => hA' h.2]
   rw [HR.out.1]
   clear b1 HF HGk HKn
   go_wp2
   (try rw [Exit.noGoto_ret])
   go_ret
   exact ⟨rfl, HR.out.2⟩
  have hlt' : (k : Int) < (n : Int) := by omega
  have c4 := HF.out.1.hq.c4
  go_wp2_with fail
  clear c4
  go_loopg [17] y.n (fun g i wi => ∃ j : Nat, j <= y.n /\ g = y.n - j /\ i = .int .i64 j /\ Hid (Pw w0 X ha hc y (tnD (rwF h) k) wi /\ (∀ i, i < k -> y.RwAt h i) /\ ∀ q, q < j -> ¬ ((h k).m = (q : Nat) /\ (h k).v = (tnD (rwF h) k q : Nat) /\ y.Can (tnD (rwF h) k) q)))
  case atStart => exact ⟨0, Nat.zero_le _, rfl, rfl, HF.out.1, HF.out.2, fun j hj => by omega⟩
  case round =>
   clear HF
   obtain ⟨j, hj, hgj, rfl, HF⟩ := hrel
   have HGj : Hid (gk = y.n - j) := hgj
   clear hgj
   by_cases hjt : j < y.n
   case neg =>
    have HR : Hid (qB (y.RwOk h n) = false /\ Below w0.heap.size w0 wr) := by
     refine ⟨qB_false (Hs.rw_no hlt ?_), HF.out.1.be⟩
     rintro ⟨p, hp, e1, e2, e3⟩
     exact HF.out.2.2 p (by omega) ⟨e1, e2, e3⟩
    clear HF HGj HGk
    go_wp2
    (try rw [Exit.noGoto_ret])
    go_ret
    exact ⟨by rw [HR.out.1]; rfl, HR.out.2⟩
   have hjt' : (j : Int) < (y.n : Int) := by omega
   have hj4 : (j : Int) < 4 := by have := HH.out.2.2.2; omega
   obtain ⟨b, off, rfl, -, c0, c1⟩ := (HW.out wr HF.out.1.be).at hlt
   have pk := HF.out.1.hq.pt j (by have := HH.out.2.2.2; omega)
   have hE9 := heq (h k).m (h k).v j (tnD (rwF h) k j : Nat)
   have HCP : Hid (∀ wx, Below wr.heap.size wr wx -> Calls Tryz.prog 112 #[.pointer (some ⟨X, 0, none⟩), .int .i64 (j : Nat)] wx fun e w' => e = .returned (.bool (qB (y.Can (tnD (rwF h) k) j))) /\ Below wx.heap.size wx w') := fun wx hb => canPut_q X ha hc hA hC y _ j wx (HE.out wx (HF.out.1.below hb).be) (HF.out.1.below hb).hq HH.out.2.2.2 hjt HH.out.1 HH.out.2.1 (Hs.rw_put HF.out.2.1).le
   have HS : Hid (spEq (h k).m (h k).v j (tnD (rwF h) k j : Nat) = true ↔ ((h k).m = (j : Nat) /\ (h k).v = (tnD (rwF h) k j : Nat))) := by
    show _ ↔ _
    simp [spEq]
   have c0' := cell_regrown c0
   have c1' := cell_regrown c1
   have pk' := cell_regrown pk
   have HMs : Hid (∀ w', Below wr.heap.size wr w' → ¬ ((h k).m = (j : Nat) ∧ (h k).v = (tnD (rwF h) k j : Nat) ∧ y.Can (tnD (rwF h) k) j) → Pw w0 X ha hc y (tnD (rwF h) k) w' ∧ (∀ i, i < k → y.RwAt h i) ∧ ∀ q, q < j + 1 → ¬ ((h k).m = (q : Nat) ∧ (h k).v = (tnD (rwF h) k q : Nat) ∧ y.Can (tnD (rwF h) k) q)) := fun w' hb hno => ⟨HF.out.1.below hb, HF.out.2.1, fun q hq => by
    by_cases e : q = j
    ·subst e
     exact hno
    ·exact HF.out.2.2 q (by omega)⟩
   clear heq
   cases hsp : spEq (h k).m (h k).v j (tnD (rwF h) k j : Nat) with
   | false =>
    rw [hsp] at hE9
    have HNo : Hid (¬ ((h k).m = (j : Nat) /\ (h k).v = (tnD (rwF h) k j : Nat) /\ y.Can (tnD (rwF h) k) j)) := fun h9 => by
     rw [HS.out.2 ⟨h9.1, h9.2.1⟩] at hsp
     cases hsp
    clear HS HCP hsp
    go_upto_region 7 with fail
    refine wp_region_quiet_below (by kernel_rfl) (by kernel_rfl) ?_
    repeat (first | go_big_quiet_skip | quiet_step (fail))
    refine wpQuiet_nil ?_
    intro _ hw'
    obtain ⟨⟨dq, osq⟩, hw''⟩ := hw'
    subst hw''
    have B3 : Hid (Pw w0 X ha hc y (tnD (rwF h) k) (grow (redrawn wr dq) osq) /\ (∀ i, i < k -> y.RwAt h i) /\ ∀ q, q < j + 1 -> ¬ ((h k).m = (q : Nat) /\ (h k).v = (tnD (rwF h) k q : Nat) /\ y.Can (tnD (rwF h) k) q)) := HMs.out _ (below_regrown wr dq osq) HNo.out
    generalize grow (redrawn wr dq) osq = w3 at *
    clear c0 c1 pk c0' c1' pk' hE9 HMs HF HNo
    go_wp2
    go_roundg (y.n - (j + 1))
    case measure => have := HGj.out; omega
    case rel => exact ⟨j + 1, by omega, rfl, by go_num, B3.out⟩
   | true =>
    rw [hsp] at hE9
    have HYes : Hid ((h k).m = (j : Nat) /\ (h k).v = (tnD (rwF h) k j : Nat)) := HS.out.1 hsp
    clear HS hsp
    by_cases hcn : y.Can (tnD (rwF h) k) j
    case neg =>
     rw [qB_false hcn] at HCP
     have HNo : Hid (¬ ((h k).m = (j : Nat) /\ (h k).v = (tnD (rwF h) k j : Nat) /\ y.Can (tnD (rwF h) k) j)) := fun h9 => hcn h9.2.2
     clear hcn HYes
     go_upto_region 7 with fail
     refine wp_region_quiet_below (by kernel_rfl) (by kernel_rfl) ?_
     repeat (quiet_step (first | (go_at_call 112; exact Calls.regrown_of (HCP.out _ (below_regrown _ _ _)))))
     refine wpQuiet_nil ?_
     intro _ hw'
     obtain ⟨⟨dq, osq⟩, hw''⟩ := hw'
     subst hw''
     have B3 : Hid (Pw w0 X ha hc y (tnD (rwF h) k) (grow (redrawn wr dq) osq) /\ (∀ i, i < k -> y.RwAt h i) /\ ∀ q, q < j + 1 -> ¬ ((h k).m = (q : Nat) /\ (h k).v = (tnD (rwF h) k q : Nat) /\ y.Can (tnD (rwF h) k) q)) := HMs.out _ (below_regrown wr dq osq) HNo.out
     generalize grow (redrawn wr dq) osq = w3 at *
     clear c0 c1 pk c0' c1' pk' hE9 HMs HF HNo HCP
     go_wp2
     go_roundg (y.n - (j + 1))
     case measure => have := HGj.out; omega
     case rel => exact ⟨j + 1, by omega, rfl, by go_num, B3.out⟩
    rw [qB_true hcn] at HCP
    have HHit : Hid (y.RwAt h k /\ tnD (rwF h) (k + 1) = up (tnD (rwF h) k) j) := Hs.rw_hit hjt HYes.out.1 HYes.out.2 hcn
    have HLt : Hid (tnD (rwF h) k j < y.l j) := hcn.1
    clear hcn HYes HMs
    go_upto_region 7 with fail
    refine wp_region_quiet_below (by kernel_rfl) (by kernel_rfl) ?_
    repeat (quiet_step (first | (go_at_call 112; exact Calls.regrown_of (HCP.out _ (below_regrown _ _ _)))))
    refine wpQuiet_nil ?_
    intro _ hw'
    obtain ⟨⟨dq, osq⟩, hw''⟩ := hw'
    subst hw''
    have B3 : Hid (Pw w0 X ha hc y (tnD (rwF h) k) (grow (redrawn wr dq) osq) /\ ∀ i, i < k -> y.RwAt h i) := ⟨HF.out.1.below (below_regrown wr dq osq), HF.out.2.1⟩
    generalize grow (redrawn wr dq) osq = w3 at *
    clear c0 c1 pk c0' c1' pk' hE9 HF HCP
    go_wp2_with fail
    refine (putOne_q X ha hc hA hC y _ j w3 (HE.out w3 B3.out.1.be) B3.out.1.hq HH.out.2.2.2 hjt HH.out.1 HH.out.2.1 (Hs.rw_put B3.out.2).le HLt.out).mono ?_
    rintro e w4 ⟨rfl, hq4, t4⟩
    have B4 : Hid (Pw w0 X ha hc y (tnD (rwF h) (k + 1)) w4 /\ ∀ i, i < k + 1 -> y.RwAt h i) := by
     refine ⟨?_, fun i hi => ?_⟩
     ·rw [HHit.out.2]
      exact B3.out.1.turn HH.out.2.2.1 t4 hq4
     ·by_cases e : i = k
      ·subst e
       exact HHit.out.1
      ·exact B3.out.2 i (by omega)
    clear hq4 t4 B3 HHit HLt HGj
    go_wp2
    go_roundg (n - (k + 1))
    case measure => have := HGk.out; omega
    case rel => exact ⟨k + 1, by omega, rfl, by go_num, B4.out⟩
open Go.Maps
theorem implSide_any (x : SysIn) (p i q j : Int) (w : World) (hG : SysG w x) (hL : x.Len) (hcap : ∀ i, i < x.hn -> x.hL i <= x.hC i) (hV : w.cell? ⟨0, 0, none⟩ = some (.iface 269 (.agg #[.pointer (some ⟨1, 217, none⟩)]))) :
  Calls Tryz.prog 50 #[x.v, .int .i64 p, .int .i64 i, .int .i64 q, .int .i64 j] w fun e w' => e = .returned (.bool (sdB x.y p i q j)) /\ Below w.heap.size w w' := by
 have HV0 : 0 < w.heap.size := zJ w _ hV
 have HX : Hid (HgX w x p i q j (((w.alloc (oQ4 x.pa x.pn x.pc x.sa x.sn x.sc x.wa x.wn x.wc x.ha x.hn x.hc)).alloc (oQ5 p i)).alloc (oQ5 q j))) := HgX.new w x p i q j
 have HA : Hid (∀ wx b, Below w.heap.size w wx -> b < wx.heap.size -> SpAt wx b 2 (fun k => if k = 0 then (p, i) else (q, j)) -> Calls Tryz.prog 86 #[x.v, .slice (some ⟨b, 0, none⟩) 2 2] wx fun e w' => e = .returned (.bool (bothB x.y p i q j)) /\ Below wx.heap.size wx w') := fun wx b hb hbl hs => by
  have h := areIn_any x b 2 2 (fun k => if k = 0 then (p, i) else (q, j)) wx (hG.below hb) hL ((hb.cell (p := ⟨0, 0, none⟩) HV0).trans hV) hbl (by omega) hs
  rw [arB_two] at h
  exact h
 have HCk : Hid (bothB x.y p i q j = true -> ∀ wx, Below w.heap.size w wx -> Calls Tryz.prog 87 #[x.v] wx fun e w' => ∃ b, e = .returned (.map (some b)) /\ Below wx.heap.size wx w' /\ ∀ wy, Below w'.heap.size w' wy -> Calls Tryz.prog 88 #[.map (some b), sptV p i, sptV q j] wy (fun e w' => e = .returned (.bool (hgN x.y p.toNat i.toNat q.toNat j.toNat)) /\ Below wy.heap.size wy w') /\ Calls Tryz.prog 88 #[.map (some b), sptV q j, sptV p i] wy (fun e w' => e = .returned (.bool (hgN x.y q.toNat j.toNat p.toNat i.toNat)) /\ Below wy.heap.size wy w')) := fun h wx hb => by
  simp only [bothB, Bool.and_eq_true] at h
  obtain ⟨hO, a, c, rfl, rfl, ha, hc⟩ := hasB_parts h.1
  obtain ⟨-, a', c', rfl, rfl, ha', hc'⟩ := hasB_parts h.2
  refine (clocksIn_any x wx (hG.below hb) hcap hO).mono ?_
  rintro e w' ⟨b, D, d, rfl, hb0, hd, hC, hbw⟩
  have hbl : b < w'.heap.size := hC.own.lt
  have h4 := hO.cn.1.2
  refine ⟨b, rfl, hbw, fun wy hy => ?_⟩
  have hC' : Ckm wy b x.y d D := hC.blk (hy.block b hbl)
  have hbl' : b < wy.heap.size := zL hbl hy.size
  have h5 := hO.hl200 ha
  have h6 := hO.hl200 ha'
  exact ⟨hang_any b x.y d D a c a' c' wy hC' hbl' h4 ha (by rw [hd a ha]; exact hc) (by omega) ha', hang_any b x.y d D a' c' a c wy hC' hbl' h4 ha' (by rw [hd a' ha']; exact hc') (by omega) ha⟩
 have HR : Hid (sdB x.y p i q j = ((!spEq p i q j && bothB x.y p i q j) && (!hgN x.y p.toNat i.toNat q.toNat j.toNat && !hgN x.y q.toNat j.toNat p.toNat i.toNat))) := rfl
 have heq := eql_spot p i q j
 generalize sdB x.y p i q j = R at *
 generalize bothB x.y p i q j = T at *
 generalize hgN x.y p.toNat i.toNat q.toNat j.toNat = V at *
 generalize hgN x.y q.toNat j.toNat p.toNat i.toNat = V' at *
 generalize spEq p i q j = E at *
 clear hG hL hcap hV HV0
 go_enter Tryz.func50, Tryz.ntmps50
 go_upto_region 2 with fail
 generalize ((w.alloc (oQ4 x.pa x.pn x.pc x.sa x.sn x.sc x.wa x.wn x.wc x.ha x.hn x.hc)).alloc (oQ5 p i)).alloc (oQ5 q j) = W2 at *
 obtain ⟨-, ⟨b0, b1, b2, b3⟩, ⟨s0, s1⟩, t0, t1⟩ := HX.out
 cases E with
 | true =>
  go_wp2
  go_ret
  exact ⟨by rw [HR.out]; rfl, HX.out.be⟩
 | false =>
  have q3 : Below W2.heap.size W2 (W2.alloc (.cells #[.int .i64 p, .int .i64 i, .int .i64 q, .int .i64 j] 131)) := zS _ _
  have X3 : Hid (HgX w x p i q j (W2.alloc (.cells #[.int .i64 p, .int .i64 i, .int .i64 q, .int .i64 j] 131))) := HX.out.below q3
  have SP : Hid (SpAt (W2.alloc (.cells #[.int .i64 p, .int .i64 i, .int .i64 q, .int .i64 j] 131)) W2.heap.size 2 (fun k => if k = 0 then (p, i) else (q, j)) /\ W2.heap.size < (W2.alloc (.cells #[.int .i64 p, .int .i64 i, .int .i64 q, .int .i64 j] 131)).heap.size) := ⟨SpAt.two _ _ _ _ _ _, by simp⟩
  clear q3 HX
  go_wp2_with fail
  clear b0 b1 b2 b3 s0 s1 t0 t1 heq
  generalize W2.heap.size = N at *
  generalize W2.alloc (.cells #[.int .i64 p, .int .i64 i, .int .i64 q, .int .i64 j] 131) = W3 at *
  refine (HA.out W3 N X3.out.be SP.out.2 SP.out.1).mono ?_
  rintro e w4 ⟨rfl, b4⟩
  have X4 : Hid (HgX w x p i q j w4) := X3.out.below b4
  clear b4 X3 SP HA
  cases T with
  | false =>
   go_wp2
   go_ret
   exact ⟨by rw [HR.out]; rfl, X4.out.be⟩
  | true =>
   obtain ⟨-, ⟨b0, b1, b2, b3⟩, -, -⟩ := X4.out
   go_wp2_with fail
   clear b0 b1 b2 b3
   refine (HCk.out trivial w4 X4.out.be).mono ?_
   rintro e w5 ⟨b, rfl, b5, hH⟩
   have HH : Hid (∀ wy, Below w5.heap.size w5 wy -> Calls Tryz.prog 88 #[.map (some b), sptV p i, sptV q j] wy (fun e w' => e = .returned (.bool V) /\ Below wy.heap.size wy w') /\ Calls Tryz.prog 88 #[.map (some b), sptV q j, sptV p i] wy (fun e w' => e = .returned (.bool V') /\ Below wy.heap.size wy w')) := hH
   have X5 : Hid (HgX w x p i q j w5) := X4.out.below b5
   clear b5 hH X4 HCk
   obtain ⟨-, -, ⟨s0, s1⟩, t0, t1⟩ := X5.out
   go_wp2_with fail
   clear s0 s1 t0 t1
   refine (HH.out w5 (Below.refl _ _)).1.mono ?_
   rintro e w6 ⟨rfl, b6⟩
   have X6 : Hid (HgX w x p i q j w6 /\ Below w5.heap.size w5 w6) := ⟨X5.out.below b6, b6⟩
   clear b6 X5
   cases V with
   | true =>
    go_wp2
    go_ret
    exact ⟨by rw [HR.out]; rfl, X6.out.1.be⟩
   | false =>
    obtain ⟨-, -, ⟨s0, s1⟩, t0, t1⟩ := X6.out.1
    go_wp2_with fail
    clear s0 s1 t0 t1
    refine (HH.out w6 X6.out.2).2.mono ?_
    rintro e w7 ⟨rfl, b7⟩
    have X7 : Hid (HgX w x p i q j w7) := X6.out.1.below b7
    clear b7 X6
    go_wp2
    go_ret
    exact ⟨by rw [HR.out]; rfl, X7.out.be⟩
theorem Sl.all {w : World} {a0 : Option Addr} {xs : List Int} (h : Sl w a0 xs) (hn : 0 < xs.length) : ∃ b off, a0 = some ⟨b, off, none⟩ /\ b < w.heap.size /\ ∀ i, i < xs.length -> w.cell? ⟨b, off + i, none⟩ = some (.int .i64 (zi xs i)) := by
 rcases h with rfl | h
 ·simp at hn
 ·exact h
theorem RowS.all {w : World} {a0 : Option Addr} {n : Nat} {f : Nat -> Value} (h : RowS w a0 n f) (hn : 0 < n) : ∃ b off, a0 = some ⟨b, off, none⟩ /\ b < w.heap.size /\ ∀ i, i < n -> w.cell? ⟨b, off + i, none⟩ = some (f i) := by
 rcases h with rfl | h
 ·omega
 ·exact h
end Go.Proofs.YthdaejgmfognbabGreatDoor
