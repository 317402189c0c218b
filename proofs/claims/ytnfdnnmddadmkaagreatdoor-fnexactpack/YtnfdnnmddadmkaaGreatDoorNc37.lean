/- Of a right system: its events, how many and with whom. -/
import Derived.Test.YtnfdnnmddadmkaaGreatDoorNc0
import Derived.Test.YtnfdnnmddadmkaaGreatDoorNc27
import Derived.Test.YtnfdnnmddadmkaaGreatDoorNc24
import Derived.Test.YtnfdnnmddadmkaaGreatDoorNc16
import Derived.Test.YtnfdnnmddadmkaaGreatDoorNc34
import Derived.Test.YtnfdnnmddadmkaaGreatDoorNc36
import Derived.Test.YtnfdnnmddadmkaaGreatDoorNc35
import Derived.Test.YtnfdnnmddadmkaaGreatDoorNc26
import Derived.Test.YtnfdnnmddadmkaaGreatDoorNc19
namespace Go.Proofs.YtnfdnnmddadmkaaGreatDoor
open Go.ChangeShapes Go.WideShapes Go.ChangeAt Go.RowKit Go.Deep
structure Sy where
 pn : Nat
 pL : Nat → Nat
 pH : Nat → Nat → I5
 sn : Nat
 sS : Nat → S4
 wn : Nat
 wL : Nat → Nat
 wH : Nat → Nat → I2
 hn : Nat
 hL : Nat → Nat
 hH : Nat → Nat → E3
def SysIn.y (x : SysIn) : Sy := ⟨x.pn, x.pL, x.pH, x.sn, x.sS, x.wn, x.wL, x.wH, x.hn, x.hL, x.hH⟩
def Sy.hs (y : Sy) : Hs := ⟨y.pn, y.hL, y.hH⟩
def itemB (x : I2) : Bool := numB x.v && (!x.m || x.v == 0)
structure WayP (h : Nat → I2) (len : Nat) (took sent : List Int) : Prop where
 it : ∀ i, i < len → itemB (h i) = true
 le : len ≤ 12
 eq : took ++ numL h len = sent
structure Sy.Ok (y : Sy) : Prop where
 cn : (1 ≤ y.pn ∧ y.pn ≤ 4) ∧ y.sn = y.pn ∧ y.hn = y.pn ∧ y.wn = y.pn * y.pn
 pr : ∀ p, p < y.pn → progOkB (y.pH p) (y.pL p) y.pn = true
 rp : ∀ p, p < y.pn → repO (y.pH p) (y.pL p) (y.hH p) (y.hL p) = some (y.sS p)
 pe : ∀ p, p < y.pn → ∀ i, i < y.hL p → (y.hH p i).q < (y.pn : Int)
 wa : ∀ a, a < y.pn → ∀ b, b < y.pn → WayP (y.wH (a * y.pn + b)) (y.wL (a * y.pn + b)) (valL (y.hH b) 3 a (y.hL b)) (valL (y.hH a) 2 b (y.hL a))
 ro : y.hs.Row
noncomputable def Sy.okB (y : Sy) : Bool := @decide y.Ok (Classical.propDecidable _)
theorem Sy.okB_true {y : Sy} (h : y.Ok) : y.okB = true := by simp [Sy.okB, h]
theorem Sy.okB_false {y : Sy} (h : ¬ y.Ok) : y.okB = false := by simp [Sy.okB, h]
theorem Sy.ok_of {y : Sy} (h : y.okB = true) : y.Ok := by simpa [Sy.okB] using h
theorem evP_pos {g : Nat → I5} {len : Nat} {k : Nat} (h : progOkB g len 4 = true) (hk : k < len) : 0 ≤ evP (g k).o (g k).n := by
 have h5 := right_ins h hk
 simp only [insOkB, Bool.and_eq_true] at h5
 have h6 := h5.2
 unfold evP
 by_cases e6 : (g k).o = 6
 ·rw [if_pos e6]
  simp [opOkB, e6, inB] at h6
  omega
 ·rw [if_neg e6]
  by_cases e7 : (g k).o = 7
  ·rw [if_pos e7]
   simp [opOkB, e7, inB] at h6
   omega
  ·rw [if_neg e7]
   exact Int.le_refl _
theorem doB_peer {g : Nat → I5} {len : Nat} {p : Int} {rs os : List Int} {code k q v : Int} (h : doB g len p rs os code k q v = true) : 0 ≤ q := by
 have hr := doB_right h
 obtain ⟨h1, h2, -⟩ := right_parts hr
 obtain ⟨-, ⟨j, rfl, hj⟩, -⟩ := st_parts h2
 have hp := evP_pos h1 hj
 simp only [doB, canB, nxP, if_pos hr, Int.toNat_natCast] at h
 split at h
 ·simp only [Bool.and_eq_true] at h
  have h3 := h.2
  split at h3
  ·simp only [belB, decide_eq_true_eq] at h3
   omega
  ·simp only [beq_iff_eq] at h3
   omega
 ·simp only [Bool.and_eq_true, beq_iff_eq] at h
  have := h.2.2.1
  omega
theorem rp_peer {g : Nat → I5} {len : Nat} {eh : Nat → E3} : ∀ {k : Nat} {S : S4}, rp g len eh k = some S → ∀ i, i < k → 0 ≤ (eh i).q
 | 0, _, _, i, hi => by omega
 | k + 1, S, h, i, hi => by
  simp only [rp] at h
  cases hr : rp g len eh k with
  | none => rw [hr] at h; cases h
  | some S0 =>
   rw [hr] at h
   simp only [Option.bind_some, rpStep] at h
   split at h
   ·rename_i hd
    by_cases e : i = k
    ·subst e
     exact doB_peer hd
    ·exact rp_peer hr i (by omega)
   ·cases h
theorem repO_some {g : Nat → I5} {n : Nat} {eh : Nat → E3} {m : Nat} {S : S4} (h : repO g n eh m = some S) : progOkB g n 4 = true ∧ m ≤ 200 ∧ rp g n eh m = some S := by
 unfold repO at h
 split at h
 ·rename_i hc
  exact ⟨hc.1, hc.2, h⟩
 ·cases h
structure SysG (W : World) (x : SysIn) : Prop where
 p : RowS W x.pa x.pn fun i => .slice (x.pA i) (x.pL i) (x.pC i)
 pi : ∀ i, i < x.pn → ∃ b, x.pA i = some ⟨b, 0, none⟩ ∧ b < W.heap.size ∧ InsAt W b 0 (x.pL i) (x.pH i)
 s : AllState W x.sa x.sn x.sQ
 w : RowS W x.wa x.wn fun i => .slice (x.wA i) (x.wL i) (x.wC i)
 wi : ∀ i, i < x.wn → ItL W (x.wA i) (x.wL i) (x.wH i)
 h : RowS W x.ha x.hn fun i => .slice (x.hA i) (x.hL i) (x.hC i)
 hi : ∀ i, i < x.hn → EvL W (x.hA i) (x.hL i) (x.hH i)
theorem SysG.below {w w' : World} {x : SysIn} (o : SysG w x) (hb : Below w.heap.size w w') : SysG w' x :=
 ⟨o.p.below hb, fun i hi => by
  obtain ⟨b, e, hlt, hI⟩ := o.pi i hi
  exact ⟨b, e, Nat.lt_of_lt_of_le hlt hb.size, hI.below hb hlt⟩, o.s.below hb, o.w.below hb, fun i hi => (o.wi i hi).below hb, o.h.below hb, fun i hi => (o.hi i hi).below hb⟩
structure SysIn.Len (x : SysIn) : Prop where
 p : x.pn ≤ 1048576 ∧ ∀ i, i < x.pn → x.pL i ≤ 1048576
 s : x.sn ≤ 1048576 ∧ ∀ i, i < x.sn → (x.sQ i).rs.length ≤ 1048576 ∧ (x.sQ i).os.length ≤ 1048576
 w : x.wn ≤ 1048576 ∧ ∀ i, i < x.wn → x.wL i ≤ 1048576
 h : x.hn ≤ 1048576 ∧ ∀ i, i < x.hn → x.hL i ≤ 1048576
abbrev SysIn.v (x : SysIn) : Value := sysV x.pa x.pn x.pc x.sa x.sn x.sc x.wa x.wn x.wc x.ha x.hn x.hc
def flat (f : Nat → List Value) : Nat → List Value
 | 0 => []
 | n + 1 => flat f n ++ f n
section
variable {w : World} {P : Nat → Prop} {v : Value} {n : Nat} {vs : Nat → Value} {S : Nat → S4}
end
def cT (h : I2) : List Value := [.bool h.m, .int .i64 h.v]
def fT (h : Nat → I2) (n : Nat) : List Value := flat (fun i => cT (h i)) n
abbrev LT (z : Bool) (w : World) (P : Nat → Prop) (v : Value) (n : Nat) (u : Nat → Value) (L : Nat → Nat) (H : Nat → Nat → I2) : Prop := LL z 95 2 46 w P v n u L fun i => fT (H i) (L i)
variable {z : Bool}
theorem Sy.Ok.hl200 {y : Sy} (h : y.Ok) {p : Nat} (hp : p < y.pn) : y.hL p ≤ 200 := (repO_some (h.rp p hp)).2.1
end Go.Proofs.YtnfdnnmddadmkaaGreatDoor
