/- Items of the own: appended, marked, held. -/
import Derived.Test.YtcplnkhdclcgfaaGreatDoorSd0
import Derived.Test.YtcplnkhdclcgfaaGreatDoorSd25
import Derived.Test.YtcplnkhdclcgfaaGreatDoorSd29
import Derived.Test.YtcplnkhdclcgfaaGreatDoorSd24
import Derived.Test.YtcplnkhdclcgfaaGreatDoorSd23
import Derived.Test.YtcplnkhdclcgfaaGreatDoorSd10
namespace Go.Proofs.YtcplnkhdclcgfaaGreatDoor
set_option maxRecDepth 100000
set_option maxHeartbeats 1000000
open Go.ChangeShapes Go.WideShapes Go.ChangeAt Go.RowKit Go.Deep
structure SysIn where
 pa : Option Addr
 pn : Nat
 pc : Nat
 pA : Nat -> Option Addr
 pL : Nat -> Nat
 pC : Nat -> Nat
 pH : Nat -> Nat -> I5
 sa : Option Addr
 sn : Nat
 sc : Nat
 sQ : Nat -> St8
 wa : Option Addr
 wn : Nat
 wc : Nat
 wA : Nat -> Option Addr
 wL : Nat -> Nat
 wC : Nat -> Nat
 wH : Nat -> Nat -> I2
 ha : Option Addr
 hn : Nat
 hc : Nat
 hA : Nat -> Option Addr
 hL : Nat -> Nat
 hC : Nat -> Nat
 hH : Nat -> Nat -> E3
def SysIn.sS (x : SysIn) : Nat -> S4 := fun i => (x.sQ i).s
def SysIn.size (x : SysIn) : Nat := x.pn + sumL x.pL x.pn + (x.sn + sumL (lenS x.sS) x.sn) + (x.wn + sumL x.wL x.wn) + (x.hn + sumL x.hL x.hn)
abbrev sysV (pa : Option Addr) (pn pc : Nat) (sa : Option Addr) (sn sc : Nat) (wa : Option Addr) (wn wc : Nat) (ha : Option Addr) (hn hc : Nat) : Value := .agg #[.slice pa pn pc, .slice sa sn sc, .slice wa wn wc, .slice ha hn hc]
structure SysIn.Row (W : World) (x : SysIn) : Prop where
 p : RowS W x.pa x.pn fun i => .slice (x.pA i) (x.pL i) (x.pC i)
 s : AllState W x.sa x.sn x.sQ
 w : RowS W x.wa x.wn fun i => .slice (x.wA i) (x.wL i) (x.wC i)
 h : RowS W x.ha x.hn fun i => .slice (x.hA i) (x.hL i) (x.hC i)
structure SysIn.Max (x : SysIn) : Prop where
 p : x.pn <= maxLen /\ ∀ i, i < x.pn -> x.pL i <= maxLen
 s : x.sn <= maxLen /\ ∀ i, i < x.sn -> (x.sQ i).rs.length <= maxLen /\ (x.sQ i).os.length <= maxLen
 w : x.wn <= maxLen /\ ∀ i, i < x.wn -> x.wL i <= maxLen
 h : x.hn <= maxLen /\ ∀ i, i < x.hn -> x.hL i <= maxLen
structure SysIn.Ok (W : World) (x : SysIn) : Prop where
 p : AllIns W x.pa x.pn x.pA x.pL x.pC x.pH
 s : AllState W x.sa x.sn x.sQ
 w : AllItem W x.wa x.wn x.wA x.wL x.wC x.wH
 h : AllEvent W x.ha x.hn x.hA x.hL x.hC x.hH
structure OutSys (w : World) (lo hi : Nat) (x : SysIn) (v : Value) (D1 D2 D3 D4 : Nat) (b1 : Nat -> Nat) (vs : Nat -> Value) (b3 b4 : Nat -> Nat) (h1 h2 h3 : Nat) : Prop where
 val : v = sysV (some ⟨D1, 0, none⟩) x.pn x.pn (some ⟨D2, 0, none⟩) x.sn x.sn (some ⟨D3, 0, none⟩) x.wn x.wn (some ⟨D4, 0, none⟩) x.hn x.hn
 pp : OutIns w D1 h1 x.pn x.pL b1 x.pH
 ss : OutState w D2 h2 x.sn x.sS vs
 ww : OutItem w D3 h3 x.wn x.wL b3 x.wH
 hh : OutEvent w D4 hi x.hn x.hL b4 x.hH
 lo : lo <= D1
 o1 : h1 <= D2
 o2 : h2 <= D3
 o3 : h3 <= D4
def IsSys (w : World) (lo hi : Nat) (x : SysIn) (v : Value) : Prop := ∃ D1 D2 D3 D4 b1 vs b3 b4 h1 h2 h3, OutSys w lo hi x v D1 D2 D3 D4 b1 vs b3 b4 h1 h2 h3
structure Sy where
 pn : Nat
 pL : Nat -> Nat
 pH : Nat -> Nat -> I5
 sn : Nat
 sS : Nat -> S4
 wn : Nat
 wL : Nat -> Nat
 wH : Nat -> Nat -> I2
 hn : Nat
 hL : Nat -> Nat
 hH : Nat -> Nat -> E3
def SysIn.y (x : SysIn) : Sy := ⟨x.pn, x.pL, x.pH, x.sn, x.sS, x.wn, x.wL, x.wH, x.hn, x.hL, x.hH⟩
def Sy.hs (y : Sy) : Hs := ⟨y.pn, y.hL, y.hH⟩
def itemB (x : I2) : Bool := numB x.v && (!x.m || x.v == 0)
structure WayP (h : Nat -> I2) (len : Nat) (took sent : List Int) : Prop where
 it : ∀ i, i < len -> itemB (h i) = true
 le : len <= 12
 eq : took ++ numL h len = sent
structure Sy.Ok (y : Sy) : Prop where
 cn : (1 <= y.pn /\ y.pn <= 4) /\ y.sn = y.pn /\ y.hn = y.pn /\ y.wn = y.pn * y.pn
 pr : ∀ p, p < y.pn -> progOkB (y.pH p) (y.pL p) y.pn = true
 rp : ∀ p, p < y.pn -> repO (y.pH p) (y.pL p) (y.hH p) (y.hL p) = some (y.sS p)
 pe : ∀ p, p < y.pn -> ∀ i, i < y.hL p -> (y.hH p i).q < (y.pn : Int)
 wa : ∀ a, a < y.pn -> ∀ b, b < y.pn -> WayP (y.wH (a * y.pn + b)) (y.wL (a * y.pn + b)) (valL (y.hH b) 3 a (y.hL b)) (valL (y.hH a) 2 b (y.hL a))
 ro : y.hs.Row
noncomputable def Sy.okB (y : Sy) : Bool := @decide y.Ok (Classical.propDecidable _)
theorem Sy.okB_true {y : Sy} (h : y.Ok) : y.okB = true := by simp [Sy.okB, h]
theorem Sy.okB_false {y : Sy} (h : ¬ y.Ok) : y.okB = false := by simp [Sy.okB, h]
theorem Sy.ok_of {y : Sy} (h : y.okB = true) : y.Ok := by simpa [Sy.okB] using h
theorem evP_pos {g : Nat -> I5} {len : Nat} {k : Nat} (h : progOkB g len 4 = true) (hk : k < len) : 0 <= evP (g k).o (g k).n := by
 have h5 := right_ins h hk
 simp only [insOkB, Bool.and_eq_true] at h5
 have h6 := h5.2
 unfold evP
 by_cases e6 : (g k).o = 6
 ·rw [if_pos e6]
  simp [opOkB, e6, inB] at h6
  omega
 ·rw [if_neg e6]
  by_cases e7 : (g k).o = 7
  ·rw [if_pos e7]
   simp [opOkB, e7, inB] at h6
   omega
  ·rw [if_neg e7]
   exact Int.le_refl _
theorem doB_peer {g : Nat -> I5} {len : Nat} {p : Int} {rs os : List Int} {code k q v : Int} (h : doB g len p rs os code k q v = true) : 0 <= q := by
 have hr := doB_right h
 obtain ⟨h1, h2, -⟩ := right_parts hr
 obtain ⟨-, ⟨j, rfl, hj⟩, -⟩ := st_parts h2
 have hp := evP_pos h1 hj
 simp only [doB, canB, nxP, if_pos hr, Int.toNat_natCast] at h
 split at h
 ·simp only [Bool.and_eq_true] at h
  have h3 := h.2
  split at h3
  ·simp only [belB, decide_eq_true_eq] at h3
   omega
  ·simp only [beq_iff_eq] at h3
   omega
 ·simp only [Bool.and_eq_true, beq_iff_eq] at h
  have := h.2.2.1
  omega
theorem rp_peer {g : Nat -> I5} {len : Nat} {eh : Nat -> E3} : ∀ {k : Nat} {S : S4}, rp g len eh k = some S -> ∀ i, i < k -> 0 <= (eh i).q
 | 0, _, _, i, hi => by omega
 | k + 1, S, h, i, hi => by
  simp only [rp] at h
  cases hr : rp g len eh k with
  | none => rw [hr] at h; cases h
  | some S0 =>
   rw [hr] at h
   simp only [Option.bind_some, rpStep] at h
   split at h
   ·rename_i hd
    by_cases e : i = k
    ·subst e
     exact doB_peer hd
    ·exact rp_peer hr i (by omega)
   ·cases h
theorem repO_some {g : Nat -> I5} {n : Nat} {eh : Nat -> E3} {m : Nat} {S : S4} (h : repO g n eh m = some S) : progOkB g n 4 = true /\ m <= 200 /\ rp g n eh m = some S := by
 unfold repO at h
 split at h
 ·rename_i hc
  exact ⟨hc.1, hc.2, h⟩
 ·cases h
structure SysG (W : World) (x : SysIn) : Prop where
 p : RowS W x.pa x.pn fun i => .slice (x.pA i) (x.pL i) (x.pC i)
 pi : ∀ i, i < x.pn -> ∃ b, x.pA i = some ⟨b, 0, none⟩ /\ b < W.heap.size /\ InsAt W b 0 (x.pL i) (x.pH i)
 s : AllState W x.sa x.sn x.sQ
 w : RowS W x.wa x.wn fun i => .slice (x.wA i) (x.wL i) (x.wC i)
 wi : ∀ i, i < x.wn -> ItL W (x.wA i) (x.wL i) (x.wH i)
 h : RowS W x.ha x.hn fun i => .slice (x.hA i) (x.hL i) (x.hC i)
 hi : ∀ i, i < x.hn -> EvL W (x.hA i) (x.hL i) (x.hH i)
theorem SysG.below {w w' : World} {x : SysIn} (o : SysG w x) (hb : Below w.heap.size w w') : SysG w' x :=
 ⟨o.p.below hb, fun i hi => by
  obtain ⟨b, e, hlt, hI⟩ := o.pi i hi
  exact ⟨b, e, zL hlt hb.size, hI.below hb hlt⟩, o.s.below hb, o.w.below hb, fun i hi => (o.wi i hi).below hb, o.h.below hb, fun i hi => (o.hi i hi).below hb⟩
structure SysIn.Len (x : SysIn) : Prop where
 p : x.pn <= 1048576 /\ ∀ i, i < x.pn -> x.pL i <= 1048576
 s : x.sn <= 1048576 /\ ∀ i, i < x.sn -> (x.sQ i).rs.length <= 1048576 /\ (x.sQ i).os.length <= 1048576
 w : x.wn <= 1048576 /\ ∀ i, i < x.wn -> x.wL i <= 1048576
 h : x.hn <= 1048576 /\ ∀ i, i < x.hn -> x.hL i <= 1048576
abbrev SysIn.v (x : SysIn) : Value := sysV x.pa x.pn x.pc x.sa x.sn x.sc x.wa x.wn x.wc x.ha x.hn x.hc
variable {z : Bool}
structure OwnS (z : Bool) (w : World) (B : Nat) (c : Nat -> Nat) (y : Sy) (vp vs vw vh : Value) (up us uw uh : Nat -> Value) : Prop where
 p : LI z w (Cl B c 1) vp y.pn up y.pL y.pH
 s : LS w (Cl B c 2) vs y.sn us y.sS
 t : LT z w (Cl B c 3) vw y.wn uw y.wL y.wH
 h : LE z w (Cl B c 4) vh y.hn uh y.hL y.hH
theorem OwnS.below {w w' : World} {B : Nat} {c : Nat -> Nat} {y : Sy} {vp vs vw vh : Value} {up us uw uh : Nat -> Value} (o : OwnS z w B c y vp vs vw vh up us uw uh) (hb : Below w.heap.size w w') : OwnS z w' B c y vp vs vw vh up us uw uh := ⟨o.p.below hb, o.s.below hb, o.t.below hb, o.h.below hb⟩
def OwnSys (z : Bool) (w : World) (B : Nat) (y : Sy) (v : Value) : Prop := ∃ c vp vs vw vh up us uw uh, v = .agg #[vp, vs, vw, vh] /\ OwnS z w B c y vp vs vw vh up us uw uh
theorem OwnSys.below {w w' : World} {B : Nat} {y : Sy} {v : Value} (o : OwnSys z w B y v) (hb : Below w.heap.size w w') : OwnSys z w' B y v := by
 obtain ⟨c, vp, vs, vw, vh, up, us, uw, uh, e, o⟩ := o
 exact ⟨c, vp, vs, vw, vh, up, us, uw, uh, e, o.below hb⟩
theorem zU {w : World} {B : Nat} {e : TypeId} {sz : Nat} {v : Value} {n : Nat} {xs : List Value} (h : w.ownsRow B e sz v n xs) : ∃ a c, v = .slice a n c := by
 rcases h.2 with ⟨rfl, rfl⟩ | ⟨g, cap, cur, rfl, _⟩
 ·exact ⟨none, 0, rfl⟩
 ·exact ⟨_, _, rfl⟩
theorem l4Ins_any (a0 : Option Addr) (n cap : Nat) (A : Nat -> Option Addr) (L C : Nat -> Nat) (H : Nat -> Nat -> I5) (w : World) (hn : n <= 1048576) (hL : ∀ i, i < n -> L i <= 1048576) (hr : RowS w a0 n fun i => .slice (A i) (L i) (C i)) (hI : ∀ i, i < n -> Src w (A i) (fI (H i) (L i))) :
  Calls Tryz.prog 120 #[.slice a0 n cap] w fun e w' => ∃ v u, e = .returned v /\ LI true w' (fun k => w.heap.size <= k /\ k < w'.heap.size) v n u L H /\ Below w.heap.size w w' := by
 have hn' : (n : Int) <= 1048576 := by omega
 have HR : Hid (RowS w a0 n fun i => .slice (A i) (L i) (C i)) := hr
 have HI : Hid (∀ i, i < n -> Src w (A i) (fI (H i) (L i))) := hI
 have HL : Hid (∀ i, i < n -> L i <= 1048576) := hL
 clear hr hI hL
 go_enter Tryz.func120, Tryz.ntmps120
 go_wp2_with fail
 go_loopw [3, 4] (fun v i wr => ∃ k : Nat, k <= n /\ i = .int .i64 k /\ Hid ((∃ u, LI true wr (fun b => w.heap.size <= b /\ b < wr.heap.size) v k u L H) /\ Below w.heap.size w wr)) (fun _ i _ => n - (intOf i).toNat)
 case atStart => exact ⟨0, Nat.zero_le _, rfl, ⟨fun _ => .slice none 0 0, LL.new _ _ _ w _ (by simp) _ _ _⟩, zQ _ _⟩
 case round =>
  obtain ⟨k, hk, rfl, HZ⟩ := hrel
  by_cases hlt : k < n
  ·have hlt' : (k : Int) < (n : Int) := by omega
   obtain ⟨b, off, rfl, ck⟩ := (HR.out.below HZ.out.2).at hlt
   have hbl : b < wr.heap.size := zJ wr _ ck
   have HS : Hid (Src wr (A k) (fI (H k) (L k))) := (HI.out k hlt).below HZ.out.2
   have HLk : Hid (L k <= 1048576) := HL.out k hlt
   have hk2 : Hid (k <= 2000000) := by show k <= 2000000; omega
   obtain ⟨⟨u, oz⟩, bz⟩ := HZ.out
   have OZ : Hid (LI true wr (fun b => w.heap.size <= b /\ b < wr.heap.size) u3 k u L H) := oz
   have BZ : Hid (Below w.heap.size w wr) := bz
   clear oz bz HZ
   go_wp2_with (first
    | (at_builtin; refine step_append_srcN kndI wr rfl rfl _ _ rfl (A k) (L k) (C k) (fI (H k) (L k)) rfl rfl (fI_len _ _) HS.out (fI_one _ _) (zP HLk.out (by omega)) ?_; intro v4 w4 o4 b4 n4; obtain ⟨a4, c4, rfl⟩ := zU o4; have F4 : Hid (w4.ownsRow wr.heap.size 99 5 (.slice a4 (L k) c4) (L k) (fI (H k) (L k)) /\ Below wr.heap.size wr w4 /\ Value.slice a4 (L k) c4 ≠ .slice none 0 0) := ⟨o4, b4, n4⟩; clear o4 b4 n4)
    | (at_builtin; refine step_append_val kndII w4 rfl rfl _ _ rfl 0 u3 k _ rfl (OZ.out.below F4.out.2.1).row #[.slice a4 (L k) c4] rfl rfl (by intro u hu; simp at hu; subst hu; rfl) hk2.out (Nat.zero_le _) ?_; intro v5 w5 o5 g5 q5 n5; have F5 : Hid (LI true w5 (fun b => w.heap.size <= b /\ b < w5.heap.size) v5 (k + 1) (fun j => if j = k then .slice a4 (L k) c4 else u j) L H /\ Below w.heap.size w w5) := ⟨OZ.out.push F4.out.2.1 F4.out.1 (fun _ => F4.out.2.2) o5 g5 q5 (fun j hj _ => ⟨hj.1, zL hj.2 (zP F4.out.2.1.size g5.size)⟩) (fun j hj hj' => ⟨zP BZ.out.size hj, hj'⟩), Below.grown (BZ.out.trans (F4.out.2.1.mono BZ.out.size)) g5 (zP BZ.out.size F4.out.2.1.size) (fun j hj => (OZ.out.rb j hj).1)⟩; clear o5 g5 q5 n5))
   go_roundw
   case rel => exact ⟨k + 1, by omega, by go_num, ⟨_, F5.out.1⟩, F5.out.2⟩
   case measure => simp [intOf]; omega
  ·have hkn : k = n := by omega
   subst hkn
   go_wp2
   go_ret
   obtain ⟨⟨u, oz⟩, bz⟩ := HZ.out
   exact ⟨_, u, rfl, oz, bz⟩
theorem l4Events_any (a0 : Option Addr) (n cap : Nat) (A : Nat -> Option Addr) (L C : Nat -> Nat) (H : Nat -> Nat -> E3) (w : World) (hn : n <= 1048576) (hL : ∀ i, i < n -> L i <= 1048576) (hr : RowS w a0 n fun i => .slice (A i) (L i) (C i)) (hI : ∀ i, i < n -> Src w (A i) (fE (H i) (L i))) :
  Calls Tryz.prog 121 #[.slice a0 n cap] w fun e w' => ∃ v u, e = .returned v /\ LE true w' (fun k => w.heap.size <= k /\ k < w'.heap.size) v n u L H /\ Below w.heap.size w w' := by
 have hn' : (n : Int) <= 1048576 := by omega
 have HR : Hid (RowS w a0 n fun i => .slice (A i) (L i) (C i)) := hr
 have HI : Hid (∀ i, i < n -> Src w (A i) (fE (H i) (L i))) := hI
 have HL : Hid (∀ i, i < n -> L i <= 1048576) := hL
 clear hr hI hL
 go_enter Tryz.func121, Tryz.ntmps121
 go_wp2_with fail
 go_loopw [3, 4] (fun v i wr => ∃ k : Nat, k <= n /\ i = .int .i64 k /\ Hid ((∃ u, LE true wr (fun b => w.heap.size <= b /\ b < wr.heap.size) v k u L H) /\ Below w.heap.size w wr)) (fun _ i _ => n - (intOf i).toNat)
 case atStart => exact ⟨0, Nat.zero_le _, rfl, ⟨fun _ => .slice none 0 0, LL.new _ _ _ w _ (by simp) _ _ _⟩, zQ _ _⟩
 case round =>
  obtain ⟨k, hk, rfl, HZ⟩ := hrel
  by_cases hlt : k < n
  ·have hlt' : (k : Int) < (n : Int) := by omega
   obtain ⟨b, off, rfl, ck⟩ := (HR.out.below HZ.out.2).at hlt
   have hbl : b < wr.heap.size := zJ wr _ ck
   have HS : Hid (Src wr (A k) (fE (H k) (L k))) := (HI.out k hlt).below HZ.out.2
   have HLk : Hid (L k <= 1048576) := HL.out k hlt
   have hk2 : Hid (k <= 2000000) := by show k <= 2000000; omega
   obtain ⟨⟨u, oz⟩, bz⟩ := HZ.out
   have OZ : Hid (LE true wr (fun b => w.heap.size <= b /\ b < wr.heap.size) u3 k u L H) := oz
   have BZ : Hid (Below w.heap.size w wr) := bz
   clear oz bz HZ
   go_wp2_with (first
    | (at_builtin; refine step_append_srcN kndE wr rfl rfl _ _ rfl (A k) (L k) (C k) (fE (H k) (L k)) rfl rfl (fE_len _ _) HS.out (fE_one _ _) (zP HLk.out (by omega)) ?_; intro v4 w4 o4 b4 n4; obtain ⟨a4, c4, rfl⟩ := zU o4; have F4 : Hid (w4.ownsRow wr.heap.size 71 3 (.slice a4 (L k) c4) (L k) (fE (H k) (L k)) /\ Below wr.heap.size wr w4 /\ Value.slice a4 (L k) c4 ≠ .slice none 0 0) := ⟨o4, b4, n4⟩; clear o4 b4 n4)
    | (at_builtin; refine step_append_val kndEE w4 rfl rfl _ _ rfl 0 u3 k _ rfl (OZ.out.below F4.out.2.1).row #[.slice a4 (L k) c4] rfl rfl (by intro u hu; simp at hu; subst hu; rfl) hk2.out (Nat.zero_le _) ?_; intro v5 w5 o5 g5 q5 n5; have F5 : Hid (LE true w5 (fun b => w.heap.size <= b /\ b < w5.heap.size) v5 (k + 1) (fun j => if j = k then .slice a4 (L k) c4 else u j) L H /\ Below w.heap.size w w5) := ⟨OZ.out.push F4.out.2.1 F4.out.1 (fun _ => F4.out.2.2) o5 g5 q5 (fun j hj _ => ⟨hj.1, zL hj.2 (zP F4.out.2.1.size g5.size)⟩) (fun j hj hj' => ⟨zP BZ.out.size hj, hj'⟩), Below.grown (BZ.out.trans (F4.out.2.1.mono BZ.out.size)) g5 (zP BZ.out.size F4.out.2.1.size) (fun j hj => (OZ.out.rb j hj).1)⟩; clear o5 g5 q5 n5))
   go_roundw
   case rel => exact ⟨k + 1, by omega, by go_num, ⟨_, F5.out.1⟩, F5.out.2⟩
   case measure => simp [intOf]; omega
  ·have hkn : k = n := by omega
   subst hkn
   go_wp2
   go_ret
   obtain ⟨⟨u, oz⟩, bz⟩ := HZ.out
   exact ⟨_, u, rfl, oz, bz⟩
theorem stepR_append_src {ops : Array Oper} {o : Oper} {a : Act} {K : Act -> World -> Prop} {Q : Exit -> Act -> World -> Prop} {E : Prop} {t e : TypeId} {size bytes : Nat} (KK : Kind t e size bytes) (w : World) (hg : o.guard = none) (s x : Operand)
  (ho : o.op = .call { callee := .builtin .append, args := #[s, x], argTypes := #[t, t] })
  (B : Nat) (v : Value) (n : Nat) (xs : List Value) (hs : a.eval s = v) (hown : w.ownsRow B e size v n xs) (a0 : Option Addr) (m c : Nat) (news : List Value) (hx : a.eval x = .slice a0 m c) (hl : news.length = m * size) (hsrc : Src w a0 news) (h1 : ∀ u ∈ news, u.oneCell' = true) (hnm : n + m <= 4000000) (hB : B <= w.heap.size)
  (h : ∀ v' w', w'.ownsRow B e size v' (n + m) (xs ++ news) -> w.grownBy w' v.ownBlock -> (v'.ownBlock = v.ownBlock \/ v'.ownBlock = some w.heap.size) -> (v ≠ .slice none 0 0 \/ 0 < m -> v' ≠ .slice none 0 0) -> K (a.put o.dst v') w') :
  if Region.wanted o (yielded ops a.tmps) = true then Oper.wp Tryz.prog o a w K Q else E := by
 obtain ⟨v', w', r1, r2, r3, r4, r5⟩ := run_append_src KK w o.type B v n xs hown a0 m c news hl hsrc h1 hnm hB
 have hw : Region.wanted o (yielded ops a.tmps) = true := by simp [Region.wanted, hg]
 rw [if_pos hw]
 unfold Oper.wp execOp
 simp only [ho, resolve, invoke, builtin, Sem.run_bind, Sem.run_pure, Result.andThen_ok, List.map_toArray, List.map_cons, List.map_nil, hs, hx, r1]
 exact h v' w' r2 r3 r4 r5
theorem stepR_append_srcN {ops : Array Oper} {o : Oper} {a : Act} {K : Act -> World -> Prop} {Q : Exit -> Act -> World -> Prop} {E : Prop} {t e : TypeId} {size bytes : Nat} (KK : Kind t e size bytes) (w : World) {N : Nat} (hN : N = w.heap.size) (hg : o.guard = none) (s x : Operand)
  (ho : o.op = .call { callee := .builtin .append, args := #[s, x], argTypes := #[t, t] })
  (a0 : Option Addr) (m c : Nat) (news : List Value) (hs : a.eval s = .slice (some ⟨N, 0, none⟩) 0 0) (hx : a.eval x = .slice a0 m c) (hl : news.length = m * size) (hsrc : Src w a0 news) (h1 : ∀ u ∈ news, u.oneCell' = true) (hnm : m <= 4000000)
  (h : ∀ v' w', w'.ownsRow w.heap.size e size v' m news -> Below w.heap.size w w' -> v' ≠ .slice none 0 0 -> K (a.put o.dst v') w') :
  if Region.wanted o (yielded ops a.tmps) = true then Oper.wp Tryz.prog o a (w.alloc (.cells #[] e)) K Q else E := by
 subst hN
 have hb : Below w.heap.size w (w.alloc (.cells #[] e)) := zQ _ _
 refine stepR_append_src KK _ hg s x ho w.heap.size (.slice (some ⟨w.heap.size, 0, none⟩) 0 0) 0 [] hs (World.ownsRow_made (base := w.heap.size) (e := e) (size := size) w #[] 0 (Nat.le_refl _) (by unfold maxLen; omega) (by simp)) a0 m c news hx hl (hsrc.below hb) h1 (by omega) (by simp) ?_
 intro v' w' o g _ hne
 rw [Nat.zero_add, List.nil_append] at o
 exact h v' w' o (hb.grown g (by simp) (fun k hk => by cases hk; exact Nat.le_refl _)) (hne (.inl (by simp)))
theorem stepR_append_val {ops : Array Oper} {o : Oper} {a : Act} {K : Act -> World -> Prop} {Q : Exit -> Act -> World -> Prop} {E : Prop} {t e : TypeId} {size bytes : Nat} (KK : Kind t e size bytes) (w : World) {N : Nat} (hN : N = w.heap.size) (hg : o.guard = none) (s x : Operand)
  (ho : o.op = .call { callee := .builtin .append, args := #[s, x], argTypes := #[t, t] })
  (B : Nat) (v : Value) (n : Nat) (xs : List Value) (hs : a.eval s = v) (hown : w.ownsRow B e size v n xs) (cs : Array Value) (hx : a.eval x = .slice (some ⟨N, 0, none⟩) 1 1) (hl : cs.size = size) (h1 : ∀ u ∈ cs.toList, u.oneCell' = true) (hn : n <= 2000000) (hB : B <= w.heap.size)
  (h : ∀ v' w', w'.ownsRow B e size v' (n + 1) (xs ++ cs.toList) -> w.grownBy w' v.ownBlock -> (∀ j, v'.ownBlock = some j -> v.ownBlock = some j \/ w.heap.size <= j) -> v' ≠ .slice none 0 0 -> K (a.put o.dst v') w') :
  if Region.wanted o (yielded ops a.tmps) = true then Oper.wp Tryz.prog o a (w.alloc (.cells cs e)) K Q else E := by
 subst hN
 have hb : Below w.heap.size w (w.alloc (.cells cs e)) := zQ _ _
 refine stepR_append_src KK _ hg s x ho B v n xs hs (hown.alloc _) (some ⟨w.heap.size, 0, none⟩) 1 1 cs.toList hx (by simp [hl]) (.inr ⟨w.heap.size, 0, rfl, by simp, fun j u hj => ?_⟩) h1 (by omega) (by simp; omega) ?_
 ·rw [Nat.zero_add, zW _ _ _ j rfl]
  simpa using hj
 ·intro v' w' o g hbk hne
  refine h v' w' o ⟨g.os, g.tape, g.output, zP hb.size g.size, fun j hj hne => (g.block j (zL hj hb.size) hne).trans (hb.block j hj)⟩ (fun j hj => ?_) (hne (.inr (by omega)))
  rcases hbk with a | a
  ·exact .inl (a.symm.trans hj)
  ·rw [hj] at a
   simp only [Option.some.injEq] at a
   right
   rw [a]
   simp
theorem stepR_call {ops : Array Oper} {o : Oper} {a : Act} {w : World} {K : Act -> World -> Prop} {Q : Exit -> Act -> World -> Prop} {E : Prop} (hg : o.guard = none) (f : FuncId) (args : Array Operand) (ts : Array TypeId)
  (ho : o.op = .call { callee := .value (.func f), args := args, argTypes := ts }) (vals : Array Value) (hv : args.map a.eval = vals) (hen : ∀ vs wx, (callFunc f vs).run Tryz.prog wx = .ok (.enter f vs) wx) {post : Ending -> World -> Prop} (hc : Calls Tryz.prog f vals w post)
  (h : ∀ e w', post e w' -> ∃ v, e = .returned v /\ K (a.put o.dst v) w') :
  if Region.wanted o (yielded ops a.tmps) = true then Oper.wp Tryz.prog o a w K Q else E := by
 have hw : Region.wanted o (yielded ops a.tmps) = true := by simp [Region.wanted, hg]
 rw [if_pos hw]
 have hr : (execOp a.eval o).run Tryz.prog w = .ok (.enter f vals) w := by
  unfold execOp
  simp [ho, resolve, invoke, hv, hen, Act.eval, Deferred.ofValue]
 unfold Oper.wp
 rw [hr, Oper.upon_enter]
 refine hc.mono fun e w' hp => ?_
 obtain ⟨v, rfl, hk⟩ := h e w' hp
 exact hk
def rcol (c : Nat -> Nat) (n q : Nat) : Nat -> Nat := fun k => if k < n then c k else q
theorem rcol_old {c : Nat -> Nat} {n q k : Nat} (h : k < n) : rcol c n q k = c k := if_pos h
theorem rcol_new {c : Nat -> Nat} {n q k : Nat} (h : n <= k) : rcol c n q k = q := if_neg (by omega)
theorem Cl.old {B : Nat} {c : Nat -> Nat} {n q i k : Nat} (h : Cl B c i k) (hk : k < n) : Cl B (rcol c n q) i k := ⟨h.1, (rcol_old hk).trans h.2⟩
structure CpB (B N : Nat) (c : Nat -> Nat) (y : Sy) (ks kw : Nat) (wx : World) (vp vs vw vh : Value) (up us uw uh : Nat -> Value) : Prop where
 bx : BoxC wx N vp vs vw vh
 fr : ∀ j, wx.frozen? ⟨N, j, none⟩ = false
 cN : c N = 0
 bN : B <= N
 o : OwnS true wx B c { y with sn := ks, wn := kw } vp vs vw vh up us uw uh
section
variable {B N : Nat} {c : Nat -> Nat} {y : Sy} {ks kw : Nat} {wr : World} {vp vs vw vh : Value} {up us uw uh : Nat -> Value}
theorem CpB.lt (h : CpB B N c y ks kw wr vp vs vw vh up us uw uh) : N < wr.heap.size := zJ wr _ h.bx.1
theorem CpB.state (h : CpB B N c y ks kw wr vp vs vw vh up us uw uh) {w1 w3 : World} {u' v' : Value} (b1 : Below wr.heap.size wr w1) (hu : StOwn w1 wr.heap.size u' (y.sS ks).p (y.sS ks).rs (y.sS ks).os (y.sS ks).c) (hv : w3.ownsRow 0 39 4 v' (ks + 1) (flat (fun i => cellsL (us i)) ks ++ cellsL u')) (g : w1.grownBy w3 vs.ownBlock) (hv' : ∀ j, v'.ownBlock = some j -> vs.ownBlock = some j \/ w1.heap.size <= j) :
  CpB B N (rcol c wr.heap.size 2) y (ks + 1) kw (w3.setCell ⟨N, 1, none⟩ v') vp v' vw vh up (fun j => if j = ks then u' else us j) uw uh := by
 have hN := h.lt
 have hkeep : ∀ k, k < wr.heap.size -> c k ≠ 2 -> w3.heap[k]? = wr.heap[k]? := fun k hk hc => (g.block k (zL hk b1.size) fun e => hc (h.o.s.rb k e.symm).2).trans (b1.block k hk)
 have hset : ∀ k, k ≠ N -> (w3.setCell ⟨N, 1, none⟩ v').heap[k]? = w3.heap[k]? := fun k hk => zO _ _ _ _ hk
 have hcN : rcol c wr.heap.size 2 N = 0 := (rcol_old hN).trans h.cN
 have hBN : w3.heap[N]? = wr.heap[N]? := hkeep N hN (by rw [h.cN]; decide)
 have hkk : ∀ i, i ≠ 2 -> i ≠ 0 -> ∀ k, Cl B (rcol c wr.heap.size 2) i k -> k < wr.heap.size -> (w3.setCell ⟨N, 1, none⟩ v').heap[k]? = wr.heap[k]? := fun i h2 h0 k hk hl => by
  have e : c k = i := (rcol_old hl).symm.trans hk.2
  exact (hset k fun en => h0 (by rw [<- e, en, h.cN])).trans (hkeep k hl (by rw [e]; exact h2))
 have hP : ∀ i k, Cl B c i k -> k < wr.heap.size -> Cl B (rcol c wr.heap.size 2) i k := fun i k hk hl => hk.old hl
 have hP' : ∀ k, wr.heap.size <= k -> k < w3.heap.size -> Cl B (rcol c wr.heap.size 2) 2 k := fun k hk _ => ⟨zP h.bN (zP (Nat.le_of_lt hN) hk), rcol_new hk⟩
 obtain ⟨x0, x1, x2, x3⟩ := h.bx
 have hc : ∀ j, w3.cell? ⟨N, j, none⟩ = wr.cell? ⟨N, j, none⟩ := fun j => zH hBN
 have hnew : ∀ k, Cl B (rcol c wr.heap.size 2) 2 k -> k < w3.heap.size -> (w3.setCell ⟨N, 1, none⟩ v').heap[k]? = w3.heap[k]? := fun k hk _ => hset k fun e => by
  have e2 := hk.2
  rw [e, hcN] at e2
  cases e2
 refine ⟨⟨?_, ?_, ?_, ?_⟩, fun j => ?_, hcN, h.bN, ⟨?_, ?_, ?_, ?_⟩⟩
 ·rw [World.cell?_setCell_other _ _ _ _ (by simp), hc]; exact x0
 ·exact World.cell?_setCell_same _ _ _ ((hc 1).trans x1)
 ·rw [World.cell?_setCell_other _ _ _ _ (by simp), hc]; exact x2
 ·rw [World.cell?_setCell_other _ _ _ _ (by simp), hc]; exact x3
 ·rw [World.frozen?_setCell, zI hBN]; exact h.fr j
 ·exact (h.o.p.mono (hP 1)).keep (hkk 1 (by decide) (by decide))
 ·exact (h.o.s.push b1 hu hv g hv' (hP 2) hP').keep hnew
 ·exact (h.o.t.mono (hP 3)).keep (hkk 3 (by decide) (by decide))
 ·exact (h.o.h.mono (hP 4)).keep (hkk 4 (by decide) (by decide))
theorem CpB.way (h : CpB B N c y ks kw wr vp vs vw vh up us uw uh) {w1 w3 : World} {u' v' : Value} (b1 : Below wr.heap.size wr w1) (hu : w1.ownsRow wr.heap.size 126 2 u' (y.wL kw) (fT (y.wH kw) (y.wL kw))) (hne : u' ≠ .slice none 0 0) (hv : w3.ownsRow 0 124 1 v' (kw + 1) ((List.range kw).map uw ++ [u'])) (g : w1.grownBy w3 vw.ownBlock) (hv' : ∀ j, v'.ownBlock = some j -> vw.ownBlock = some j \/ w1.heap.size <= j) :
  CpB B N (rcol c wr.heap.size 3) y ks (kw + 1) (w3.setCell ⟨N, 2, none⟩ v') vp vs v' vh up us (fun j => if j = kw then u' else uw j) uh := by
 have hN := h.lt
 have hkeep : ∀ k, k < wr.heap.size -> c k ≠ 3 -> w3.heap[k]? = wr.heap[k]? := fun k hk hc => (g.block k (zL hk b1.size) fun e => hc (h.o.t.rb k e.symm).2).trans (b1.block k hk)
 have hset : ∀ k, k ≠ N -> (w3.setCell ⟨N, 2, none⟩ v').heap[k]? = w3.heap[k]? := fun k hk => zO _ _ _ _ hk
 have hcN : rcol c wr.heap.size 3 N = 0 := (rcol_old hN).trans h.cN
 have hBN : w3.heap[N]? = wr.heap[N]? := hkeep N hN (by rw [h.cN]; decide)
 have hkk : ∀ i, i ≠ 3 -> i ≠ 0 -> ∀ k, Cl B (rcol c wr.heap.size 3) i k -> k < wr.heap.size -> (w3.setCell ⟨N, 2, none⟩ v').heap[k]? = wr.heap[k]? := fun i h2 h0 k hk hl => by
  have e : c k = i := (rcol_old hl).symm.trans hk.2
  exact (hset k fun en => h0 (by rw [<- e, en, h.cN])).trans (hkeep k hl (by rw [e]; exact h2))
 have hP : ∀ i k, Cl B c i k -> k < wr.heap.size -> Cl B (rcol c wr.heap.size 3) i k := fun i k hk hl => hk.old hl
 have hP' : ∀ k, wr.heap.size <= k -> k < w3.heap.size -> Cl B (rcol c wr.heap.size 3) 3 k := fun k hk _ => ⟨zP h.bN (zP (Nat.le_of_lt hN) hk), rcol_new hk⟩
 obtain ⟨x0, x1, x2, x3⟩ := h.bx
 have hc : ∀ j, w3.cell? ⟨N, j, none⟩ = wr.cell? ⟨N, j, none⟩ := fun j => zH hBN
 have hnew : ∀ k, Cl B (rcol c wr.heap.size 3) 3 k -> k < w3.heap.size -> (w3.setCell ⟨N, 2, none⟩ v').heap[k]? = w3.heap[k]? := fun k hk _ => hset k fun e => by
  have e2 := hk.2
  rw [e, hcN] at e2
  cases e2
 refine ⟨⟨?_, ?_, ?_, ?_⟩, fun j => ?_, hcN, h.bN, ⟨?_, ?_, ?_, ?_⟩⟩
 ·rw [World.cell?_setCell_other _ _ _ _ (by simp), hc]; exact x0
 ·rw [World.cell?_setCell_other _ _ _ _ (by simp), hc]; exact x1
 ·exact World.cell?_setCell_same _ _ _ ((hc 2).trans x2)
 ·rw [World.cell?_setCell_other _ _ _ _ (by simp), hc]; exact x3
 ·rw [World.frozen?_setCell, zI hBN]; exact h.fr j
 ·exact (h.o.p.mono (hP 1)).keep (hkk 1 (by decide) (by decide))
 ·exact (h.o.s.mono (hP 2)).keep (hkk 2 (by decide) (by decide))
 ·exact (h.o.t.push b1 hu (fun _ => hne) hv g hv' (hP 3) hP').keep hnew
 ·exact (h.o.h.mono (hP 4)).keep (hkk 4 (by decide) (by decide))
end
structure TB (w wx : World) (a0 a1 a2 a3 o0 o1 o2 o3 : Value) : Prop where
 p : BoxC wx w.heap.size a0 a1 a2 a3
 r : BoxC wx (w.heap.size + 1) (.slice none 0 0) (.slice none 0 0) (.slice none 0 0) (.slice none 0 0)
 o : BoxC wx (w.heap.size + 1 + 1) o0 o1 o2 o3
 fr : ∀ j, wx.frozen? ⟨w.heap.size + 1, j, none⟩ = false
 fo : ∀ j, wx.frozen? ⟨w.heap.size + 1 + 1, j, none⟩ = false
 be : Below w.heap.size w wx
 le : w.heap.size + 3 <= wx.heap.size
structure MkY (w wx : World) (lo hi D1 D2 D3 D4 : Nat) (x : SysIn) : Prop where
 tch : Touch (fun b => lo <= b /\ b < hi) w wx
 bx : BoxC wx w.heap.size (.slice (some ⟨D1, 0, none⟩) x.pn x.pn) (.slice (some ⟨D2, 0, none⟩) x.sn x.sn) (.slice (some ⟨D3, 0, none⟩) x.wn x.wn) (.slice (some ⟨D4, 0, none⟩) x.hn x.hn)
 lt : w.heap.size < wx.heap.size
def flatI (h : Nat -> I2) : Nat -> List Value
 | 0 => []
 | n + 1 => flatI h n ++ [.bool (h n).m, .int .i64 (h n).v]
def OwnT (w : World) (B : Nat) (v : Value) (n : Nat) (h : Nat -> I2) : Prop := ∃ g cap, v = .slice (some ⟨g, 0, none⟩) n cap /\ B <= g /\ g < w.heap.size /\ ItAt w g 0 n h /\ ∀ j, w.frozen? ⟨g, j, none⟩ = false
def markI (k : Int) (i : Nat) : I2 := ⟨(k + 2 * i) % 3 == 0, k + 2 * i + 1⟩
end Go.Proofs.YtcplnkhdclcgfaaGreatDoor
