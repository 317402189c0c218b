/- The walk of the program's canRow, which takes back what it has put. -/
import Derived.Test.YtdmpcnmbnfdfmaaGreatDoorFc0
import Derived.Test.YtdmpcnmbnfdfmaaGreatDoorFc35
import Derived.Deep.RegionHeld3
import Derived.Deep.RegionWith
import Derived.Deep.RegionLaw
import Derived.Test.YtdmpcnmbnfdfmaaGreatDoorFc34
import Derived.Test.YtdmpcnmbnfdfmaaGreatDoorFc33
import Derived.Test.YtdmpcnmbnfdfmaaGreatDoorFc36
import Derived.Test.YtdmpcnmbnfdfmaaGreatDoorFc16
import Derived.Defers
import Derived.Deep.LoopGhost
import Derived.Deep.Cut
import Derived.Deep.MidRow
import Derived.Laws.EntriesVeiled
namespace Go.Proofs.YtdmpcnmbnfdfmaaGreatDoor
set_option maxRecDepth 100000
set_option maxHeartbeats 2000000
open Go.ChangeShapes Go.WideShapes Go.ChangeAt Go.RowKit Go.Deep
structure EvK (w : World) (N : Nat) (k q v : Int) : Prop where
 c0 : w.cell? ⟨N, 0, none⟩ = some (.int .i64 k)
 c1 : w.cell? ⟨N, 1, none⟩ = some (.int .i64 q)
 c2 : w.cell? ⟨N, 2, none⟩ = some (.int .i64 v)
 fr : ∀ j, w.frozen? ⟨N, j, none⟩ = false
def Sy.nk (y : Sy) (p : Nat) : Int := nxK (y.pH p) (y.pL p) (y.sS p).p (y.sS p).rs (y.sS p).os (y.sS p).c
def Sy.nq (y : Sy) (p : Nat) : Int := nxP (y.pH p) (y.pL p) (y.sS p).p (y.sS p).rs (y.sS p).os (y.sS p).c
def Sy.nv (y : Sy) (p : Nat) : Int := nxW (y.pH p) (y.pL p) (y.sS p).p (y.sS p).rs (y.sS p).os (y.sS p).c
def tkS (y : Sy) (p : Nat) (f : Int) : Int := if belB f y.pn = true then (if y.wL (f.toNat * y.pn + p) = 0 then 3 else if (y.wH (f.toNat * y.pn + p) 0).m = true then 5 else 0) else 2
def fuS (y : Sy) (p : Nat) (k q : Int) : Bool := decide (200 ≤ y.hL p) || (k == 2 && decide (12 ≤ y.wL (p * y.pn + q.toNat)))
def cmS (y : Sy) (p : Nat) (f : Int) : Int := if (y.sS p).c ≠ 0 then 6 else if fuS y p (y.nk p) (y.nq p) = true then 4 else if y.nk p = 3 then tkS y p (if y.nq p = 9 then f else y.nq p) else 0
def Sy.setW (y : Sy) (i m : Nat) (H : Nat → I2) : Sy := { y with wL := fun j => if j = i then m else y.wL j, wH := fun j => if j = i then H else y.wH j }
def Sy.setH (y : Sy) (i m : Nat) (H : Nat → E3) : Sy := { y with hL := fun j => if j = i then m else y.hL j, hH := fun j => if j = i then H else y.hH j }
def Sy.setS (y : Sy) (i : Nat) (T : S4) : Sy := { y with sS := fun j => if j = i then T else y.sS j }
def Sy.way (y : Sy) (p : Nat) (k q v : Int) : Sy :=
 { y with
  wL := if k = 2 then fun j => if j = p * y.pn + q.toNat then y.wL (p * y.pn + q.toNat) + 1 else y.wL j
   else if k = 3 then fun j => if j = q.toNat * y.pn + p then y.wL (q.toNat * y.pn + p) - 1 else y.wL j else y.wL
  wH := if k = 2 then fun j => if j = p * y.pn + q.toNat then (fun i => if i = y.wL (p * y.pn + q.toNat) then ⟨false, v⟩ else y.wH (p * y.pn + q.toNat) i) else y.wH j
   else if k = 3 then fun j => if j = q.toNat * y.pn + p then (fun i => y.wH (q.toNat * y.pn + p) (i + 1)) else y.wH j else y.wH }
def Sy.evt (y : Sy) (p : Nat) (k q v : Int) : Sy :=
 (y.setS p (doS (y.pH p) (y.pL p) (y.sS p).p (y.sS p).rs (y.sS p).os (y.sS p).c k q v)).setH p (y.hL p + 1) (fun i => if i = y.hL p then ⟨k, q, v⟩ else y.hH p i)
def Sy.eq (y : Sy) (p : Nat) (f : Int) : Int := if y.nk p = 3 then (if y.nq p = 9 then f else y.nq p) else y.nq p
def Sy.ev (y : Sy) (p : Nat) (f : Int) : Int := if y.nk p = 3 then (y.wH ((y.eq p f).toNat * y.pn + p) 0).v else y.nv p
def Sy.step (y : Sy) (p : Nat) (f : Int) : Sy := if cmS y p f = 0 then (y.way p (y.nk p) (y.eq p f) (y.ev p f)).evt p (y.nk p) (y.eq p f) (y.ev p f) else y
def adOf : Value → Option Addr
 | .slice a _ _ => a
 | _ => none
def cpOf : Value → Nat
 | .slice _ _ c => c
 | _ => 0
def fdOf (v : Value) (i : Nat) : Value := (cellsL v).getD i (.slice none 0 0)
def Sy.sysIn (y : Sy) (vp vs vw vh : Value) (up us uw uh : Nat → Value) : SysIn :=
 ⟨adOf vp, y.pn, cpOf vp, fun i => adOf (up i), y.pL, fun i => cpOf (up i), y.pH,
  adOf vs, y.sn, cpOf vs, fun i => ⟨(y.sS i).p, adOf (fdOf (us i) 1), cpOf (fdOf (us i) 1), (y.sS i).rs, adOf (fdOf (us i) 2), cpOf (fdOf (us i) 2), (y.sS i).os, (y.sS i).c⟩,
  adOf vw, y.wn, cpOf vw, fun i => adOf (uw i), y.wL, fun i => cpOf (uw i), y.wH,
  adOf vh, y.hn, cpOf vh, fun i => adOf (uh i), y.hL, fun i => cpOf (uh i), y.hH⟩
theorem rowS_of {e : TypeId} {sz : Nat} {E : TypeId} {w : World} {P : Nat → Prop} {v : Value} {n : Nat} {u : Nat → Value} {L : Nat → Nat} {c : Nat → List Value} (o : LL e sz E w P v n u L c) : RowS w (adOf v) n fun i => .slice (adOf (u i)) (L i) (cpOf (u i)) := by
 rcases Nat.eq_zero_or_pos n with h | h
 ·exact .inl h
 ·obtain ⟨g, cap, rfl, -, hg, -, -⟩ := o.cell h
  refine .inr ⟨g, 0, rfl, hg, fun i hi => ?_⟩
  obtain ⟨g', cap', ew, -, -, hc, -⟩ := o.cell hi
  simp only [Value.slice.injEq, Option.some.injEq, Addr.mk.injEq, and_true, true_and] at ew
  obtain ⟨rfl, rfl⟩ := ew
  obtain ⟨a, c', eu⟩ := ownsRow_slice (o.own i hi)
  show w.cell? ⟨g, 0 + i, none⟩ = some (.slice (adOf (u i)) (L i) (cpOf (u i)))
  rw [Nat.zero_add, hc, eu]
  rfl
structure SysIn.Nn (x : SysIn) : Prop where
 w : ∀ i, i < x.wn → ∃ b off, x.wA i = some ⟨b, off, none⟩
 h : ∀ i, i < x.hn → ∃ b off, x.hA i = some ⟨b, off, none⟩
section
variable {P : Program} {ops : Array Oper} {Q : Exit → Act → World → Prop} {md : Region.Mode} {S : World → Prop} {G : Nat → Bool}
def notB (b : Bool) : Nat := bif b then 0 else 1
def outI (b : Bool) (i : Nat) : List Nat := bif b then [] else [i]
theorem outI_mem {b : Bool} {i j : Nat} (h : j ∈ outI b i) : b = false ∧ j = i := by
 cases b with
 | true => cases h
 | false => exact ⟨rfl, List.mem_singleton.1 h⟩
theorem wpG_four (lst : Bool → Bool → Bool → Bool → Bool → Array Bool) (i1 i2 i3 i4 i5 : Nat) {o5 : Oper} (I : Bool → Bool → Bool → Bool → Act → World → Prop) (J : Bool → Act → World → Prop) {f0 : Nat}
  (hrd : ∀ a b c d, (a && b && c) = false → Region.ready md ops (lst a b c d false) = outI a i1 ++ (outI b i2 ++ (outI c i3 ++ outI d i4)))
  (s1 : ∀ b c d, (lst false b c d false).setIfInBounds i1 true = lst true b c d false) (s2 : ∀ a c d, (lst a false c d false).setIfInBounds i2 true = lst a true c d false) (s3 : ∀ a b d, (lst a b false d false).setIfInBounds i3 true = lst a b true d false) (s4 : ∀ a b c e, (lst a b c false e).setIfInBounds i4 true = lst a b c true e) (s5 : ∀ d, (lst true true true d false).setIfInBounds i5 true = lst true true true d true)
  (e5 : ops.toList[i5]? = some o5) (hs : Region.noSelect ops = true) (hf : ∀ d, Region.free md ops (lst true true true d false) i5 = true) (hr5 : ∀ d, (Region.ready md ops (lst true true true d false)).contains i5 = true) (hrJ : Region.ready md ops (lst true true true false true) = [i4]) (hQ : ∀ v c a w, Q (.panic c) (a.put o5.dst v) w → Q (.panic c) a w)
  (h1 : ∀ b c d x w, I false b c d x w → wpOp P ops Q i1 (fun x' w' => (S w → G i1 = false → S w') ∧ I true b c d x' w') x w) (h2 : ∀ a c d x w, I a false c d x w → wpOp P ops Q i2 (fun x' w' => (S w → G i2 = false → S w') ∧ I a true c d x' w') x w)
  (h3 : ∀ a b d x w, I a b false d x w → wpOp P ops Q i3 (fun x' w' => (S w → G i3 = false → S w') ∧ I a b true d x' w') x w) (h4 : ∀ a b c x w, I a b c false x w → wpOp P ops Q i4 (fun x' w' => (S w → G i4 = false → S w') ∧ I a b c true x' w') x w)
  (h5 : ∀ d x w, I true true true d x w → Region.wanted o5 (yielded ops x.tmps) = true ∧ ∃ v, (∀ w, (execOp x.eval o5).run P w = .ok (.value v) w) ∧ J d (x.put o5.dst v) w)
  (hJ : ∀ x w, J false x w → wpOp P ops Q i4 (fun x' w' => (S w → G i4 = false → S w') ∧ J true x' w') x w)
  (hend : ∀ x w, J true x w → wpG P md ops Q S G f0 (lst true true true true true) x w) :
  ∀ (m : Nat) (a b c d : Bool) (x : Act) (w : World), notB a + notB b + notB c + notB d = m → I a b c d x w → wpG P md ops Q S G (f0 + m + 1) (lst a b c d false) x w := by
 intro m
 induction m with
 | zero =>
  intro a b c d x w hm hI
  obtain ⟨rfl, rfl, rfl, rfl⟩ : a = true ∧ b = true ∧ c = true ∧ d = true := by
   cases a <;> cases b <;> cases c <;> cases d <;> simp [notB] at hm ⊢
  obtain ⟨hw, v, hv, hj⟩ := h5 _ x w hI
  exact wpG_takeW i5 e5 hs (hf _) (hr5 _) hQ hw ⟨v, hv, by rw [s5]; exact hend _ _ hj⟩
 | succ m ih =>
  intro a b c d x w hm hI
  rcases Bool.eq_false_or_eq_true (a && b && c) with hT | hne
  ·obtain ⟨rfl, rfl, rfl⟩ : a = true ∧ b = true ∧ c = true := by
    cases a <;> cases b <;> cases c <;> simp at hT ⊢
   obtain ⟨rfl, rfl⟩ : d = false ∧ m = 0 := by
    cases d <;> simp [notB] at hm ⊢ <;> exact hm
   obtain ⟨hw, v, hv, hj⟩ := h5 _ x w hI
   refine wpG_takeW i5 e5 hs (hf _) (hr5 _) hQ hw ⟨v, hv, ?_⟩
   rw [s5]
   refine ⟨(fun h0 => by rw [hrJ] at h0; cases h0), fun i hi => ?_⟩
   rw [hrJ] at hi
   obtain rfl := List.mem_singleton.1 hi
   refine wpOp_mono (fun x' w' h => ⟨h.1, ?_⟩) (hJ _ _ hj)
   rw [s4]
   exact hend _ _ h.2
  have hr := hrd a b c d hne
  refine ⟨fun h0 => ?_, fun i hi => ?_⟩
  ·rw [hr] at h0
   cases a <;> cases b <;> cases c <;> cases d <;> simp [outI] at h0 hne
  ·rw [hr, List.mem_append, List.mem_append, List.mem_append] at hi
   rcases hi with hi | hi | hi | hi
   ·obtain ⟨rfl, rfl⟩ := outI_mem hi
    refine wpOp_mono (fun x' w' h => ⟨h.1, ?_⟩) (h1 b c d x w hI)
    rw [s1]
    exact ih true b c d x' w' (by simp [notB] at hm ⊢; omega) h.2
   ·obtain ⟨rfl, rfl⟩ := outI_mem hi
    refine wpOp_mono (fun x' w' h => ⟨h.1, ?_⟩) (h2 a c d x w hI)
    rw [s2]
    exact ih a true c d x' w' (by simp [notB] at hm ⊢; omega) h.2
   ·obtain ⟨rfl, rfl⟩ := outI_mem hi
    refine wpOp_mono (fun x' w' h => ⟨h.1, ?_⟩) (h3 a b d x w hI)
    rw [s3]
    exact ih a b true d x' w' (by simp [notB] at hm ⊢; omega) h.2
   ·obtain ⟨rfl, rfl⟩ := outI_mem hi
    refine wpOp_mono (fun x' w' h => ⟨h.1, ?_⟩) (h4 a b c x w hI)
    rw [s4]
    exact ih a b c true x' w' (by simp [notB] at hm ⊢; omega) h.2
end
structure ZL (E : TypeId) (w : World) (P : Nat → Prop) (v : Value) (n : Nat) : Prop where
 row : w.ownsRow 0 E 1 v n (List.replicate n (.slice none 0 0))
 rb : ∀ k, v.ownBlock = some k → P k
section
variable {E : TypeId} {w w' : World} {P : Nat → Prop} {v : Value} {n : Nat}
theorem ZL.keep (o : ZL E w P v n) (hb : ∀ k, P k → k < w.heap.size → w'.heap[k]? = w.heap[k]?) : ZL E w' P v n := ⟨ownsRow_blkL o.row fun k hk => hb k (o.rb k hk) (o.row.lt k hk).2, o.rb⟩
theorem ZL.below (o : ZL E w P v n) (hb : Below w.heap.size w w') : ZL E w' P v n := o.keep fun k _ hk => hb.block k hk
theorem ZL.mono (o : ZL E w P v n) {P' : Nat → Prop} (h : ∀ k, P k → k < w.heap.size → P' k) : ZL E w P' v n := ⟨o.row, fun k hk => h k (o.rb k hk) (o.row.lt k hk).2⟩
theorem ZL.nil (E : TypeId) (w : World) (P : Nat → Prop) : ZL E w P (.slice none 0 0) 0 := ⟨World.ownsRow_nil _ _ _ _, fun k hk => by cases hk⟩
theorem ZL.cell (o : ZL E w P v n) {i : Nat} (hi : i < n) : ∃ g cap, v = .slice (some ⟨g, 0, none⟩) n cap ∧ g < w.heap.size ∧ w.cell? ⟨g, i, none⟩ = some (.slice none 0 0) := by
 rcases o.row.2 with ⟨_, h0⟩ | ⟨g, cap, cur, rfl, hb, hg, hr⟩
 ·omega
 ·refine ⟨g, cap, rfl, (o.row.lt g rfl).2, ?_⟩
  rw [o.row.cellAt i (by omega)]
  simp [hi]
theorem ZL.rowS (o : ZL E w P v n) : RowS w (adOf v) n fun _ => .slice none 0 0 := by
 rcases Nat.eq_zero_or_pos n with h | h
 ·exact .inl h
 ·obtain ⟨g, cap, rfl, hg, -⟩ := o.cell h
  refine .inr ⟨g, 0, rfl, hg, fun i hi => ?_⟩
  obtain ⟨g', cap', ew, -, hc⟩ := o.cell hi
  simp only [Value.slice.injEq, Option.some.injEq, Addr.mk.injEq, and_true, true_and] at ew
  obtain ⟨rfl, rfl⟩ := ew
  rw [Nat.zero_add]
  exact hc
end
theorem run_make_nils {t e : TypeId} {bytes : Nat} (K : Kind t e 1 bytes) (hz0 : (Tryz.prog.info? e).bind (·.zero) = some (.slice none 0 0)) (n : Nat) (hn : n ≤ 1048576) (w : World) : (Instr.makeSlice t (.int .i64 (n : Int)) (.int .i64 (n : Int))).run Tryz.prog w = .ok (.slice (some ⟨w.heap.size, 0, none⟩) n n) (w.alloc (.cells (madeCells #[.slice none 0 0] n) e)) := by
 obtain ⟨i, z, hi, hz, hs, hb, hzs⟩ := K.inf
 have hz' : z = .slice none 0 0 := by
  rw [hi] at hz0
  simp only [Option.bind_some, hz, Option.some.injEq] at hz0
  exact hz0
 subst hz'
 have hby : i.bytes * n ≤ 281474976710656 := by
  rw [hb]
  exact Nat.le_trans (Nat.mul_le_mul K.sml hn) (by omega)
 have hby' : (i.bytes : Int) * (n : Int) ≤ 281474976710656 := by rw [← Int.natCast_mul]; exact Int.ofNat_le.2 hby
 have h := run_make (P := Tryz.prog) w t e i (.slice none 0 0) K.und hi hz .i64 .i64 (n : Int) (n : Int) (by omega) (by omega) hby' (by omega)
 rw [hs, Nat.mul_one, Int.toNat_natCast] at h
 exact h
theorem ZL.made (E : TypeId) (w : World) (P : Nat → Prop) (hP : P w.heap.size) (n : Nat) (hn : n ≤ 1048576) : ZL E (w.alloc (.cells (madeCells #[.slice none 0 0] n) E)) P (.slice (some ⟨w.heap.size, 0, none⟩) n n) n := by
 have hc : (madeCells #[Value.slice none 0 0] n).toList = List.replicate n (.slice none 0 0) := by
  apply List.ext_getElem?
  intro i
  by_cases h : i < n
  ·simp [madeCells, h, Nat.mod_one]
  ·simp [madeCells, h]
 refine ⟨⟨by simp, .inr ⟨w.heap.size, n, madeCells #[.slice none 0 0] n, rfl, Nat.zero_le _, Array.getElem?_push_size, Nat.le_refl _, by unfold maxLen; omega, by simp [size_madeCells], ?_⟩⟩, fun k hk => by cases hk; exact hP⟩
 rw [hc, Nat.mul_one]
 simp
def nwY (n : Nat) (L : Nat → Nat) (H : Nat → Nat → I5) : Sy := ⟨n, L, H, n, fun _ => newS, n * n, fun _ => 0, fun _ _ => ⟨false, 0⟩, n, fun _ => 0, fun _ _ => ⟨0, 0, 0⟩⟩
noncomputable def snB (n : Nat) (L : Nat → Nat) (H : Nat → Nat → I5) : Bool := decide (n ≤ 4) && (nwY n L H).okB
structure OwnN (w : World) (c : Nat → Nat) (B n : Nat) (L : Nat → Nat) (H : Nat → Nat → I5) (vp vs vw vh : Value) (up us : Nat → Value) : Prop where
 p : LI w (Cl B c 1) vp n up L H
 s : LS w (Cl B c 2) vs n us fun _ => newS
 t : ZL 39 w (Cl B c 3) vw (n * n)
 h : ZL 33 w (Cl B c 4) vh n
def Own1 (w : World) (B T n : Nat) (L : Nat → Nat) (H : Nat → Nat → I5) (vp vs vw vh : Value) : Prop := ∃ c up us, OwnN w c B n L H vp vs vw vh up us ∧ ∀ b, T ≤ b → c b = 0
theorem Own1.touch {w w' : World} {B T n : Nat} {L : Nat → Nat} {H : Nat → Nat → I5} {vp vs vw vh : Value} {P : Nat → Prop} (o : Own1 w B T n L H vp vs vw vh) (ht : Touch P w w') (hp : ∀ b, P b → T ≤ b ∨ b < B) : Own1 w' B T n L H vp vs vw vh := by
 obtain ⟨c, up, us, o, h⟩ := o
 have hk : ∀ i, i ≠ 0 → ∀ k, Cl B c i k → k < w.heap.size → w'.heap[k]? = w.heap[k]? := fun i hi k hk hl => ht.block k hl fun e => by
  rcases hp k e with h1 | h1
  ·exact hi (hk.2.symm.trans (h k h1))
  ·have := hk.1
   omega
 exact ⟨c, up, us, ⟨o.p.keep (hk 1 (by decide)), o.s.keep (hk 2 (by decide)), o.t.keep (hk 3 (by decide)), o.h.keep (hk 4 (by decide))⟩, h⟩
theorem Own1.zero (w : World) (B T : Nat) (L : Nat → Nat) (H : Nat → Nat → I5) : Own1 w B T 0 L H (.slice none 0 0) (.slice none 0 0) (.slice none 0 0) (.slice none 0 0) :=
 ⟨fun _ => 0, fun _ => .slice none 0 0, fun _ => .slice none 0 0, ⟨LL.nil _ _ _ _ _ _ _ _, LS.nil _ _ _ _, ZL.nil _ _ _, ZL.nil _ _ _⟩, fun _ _ => rfl⟩
theorem wpG_cast {P : Program} {ops : Array Oper} {Q : Exit → Act → World → Prop} {md : Region.Mode} {S : World → Prop} {G : Nat → Bool} {fuel : Nat} {l : Array Bool} {a : Act} {w : World} (fuel' : Nat) (l' : Array Bool) (hf : fuel' = fuel) (hl : l' = l) (h : wpG P md ops Q S G fuel' l' a w) : wpG P md ops Q S G fuel l a w := by
 subst hf
 subst hl
 exact h
theorem nilItem : (Tryz.prog.info? 39).bind (·.zero) = some (.slice none 0 0) := by kernel_rfl
theorem nilEvent : (Tryz.prog.info? 33).bind (·.zero) = some (.slice none 0 0) := by kernel_rfl
structure NwF (W1 : World) (n : Nat) (L : Nat → Nat) (H : Nat → Nat → I5) (a b c d : Bool) (v1 v2 v3 v4 : Value) (w : World) : Prop where
 be : Below W1.heap.size W1 w
 ow : ∃ k : Nat → Nat, (a = true → ∃ u, LI w (Cl W1.heap.size k 1) v1 n u L H) ∧ (b = true → ZL 39 w (Cl W1.heap.size k 3) v2 (n * n)) ∧ (c = true → ZL 33 w (Cl W1.heap.size k 4) v3 n) ∧ (d = true → ∃ N, v4 = .pointer (some ⟨N, 0, none⟩) ∧ W1.heap.size ≤ N ∧ BoxC w N (.slice none 0 0) (.slice none 0 0) (.slice none 0 0) (.slice none 0 0) ∧ (∀ j, w.frozen? ⟨N, j, none⟩ = false) ∧ k N = 0)
section
variable {W1 : World} {n : Nat} {L : Nat → Nat} {H : Nat → Nat → I5} {a b c d : Bool} {v1 v2 v3 v4 : Value} {w w' : World}
theorem NwF.keepBox {N : Nat} {k : Nat → Nat} {q : Nat} (h : v4 = .pointer (some ⟨N, 0, none⟩) ∧ W1.heap.size ≤ N ∧ BoxC w N (.slice none 0 0) (.slice none 0 0) (.slice none 0 0) (.slice none 0 0) ∧ (∀ j, w.frozen? ⟨N, j, none⟩ = false) ∧ k N = 0) (hb : Below w.heap.size w w') : v4 = .pointer (some ⟨N, 0, none⟩) ∧ W1.heap.size ≤ N ∧ BoxC w' N (.slice none 0 0) (.slice none 0 0) (.slice none 0 0) (.slice none 0 0) ∧ (∀ j, w'.frozen? ⟨N, j, none⟩ = false) ∧ rcol k w.heap.size q N = 0 := by
 have hl := World.block_lt_of_cell? w _ h.2.2.1.1
 exact ⟨h.1, h.2.1, h.2.2.1.below hb, fun j => ((bcell hb).2 _ j hl).trans (h.2.2.2.1 j), (rcol_old hl).trans h.2.2.2.2⟩
theorem NwF.one (h : NwF W1 n L H a b c d v1 v2 v3 v4 w) {v : Value} {u : Nat → Value} (o : LI w' (fun k => w.heap.size ≤ k ∧ k < w'.heap.size) v n u L H) (hb : Below w.heap.size w w') : NwF W1 n L H true b c d v v2 v3 v4 w' := by
 obtain ⟨k, -, h2, h3, h4⟩ := h.ow
 have hs := h.be.size
 exact ⟨h.be.trans (hb.mono hs), rcol k w.heap.size 1, fun _ => ⟨u, o.mono fun j hj _ => ⟨Nat.le_trans hs hj.1, rcol_new hj.1⟩⟩, fun e => ((h2 e).mono fun j hj hl => hj.old hl).below hb, fun e => ((h3 e).mono fun j hj hl => hj.old hl).below hb, fun e => by
  obtain ⟨N, hN⟩ := h4 e
  exact ⟨N, NwF.keepBox hN hb⟩⟩
theorem NwF.two (h : NwF W1 n L H a b c d v1 v2 v3 v4 w) (hn : n * n ≤ 1048576) : NwF W1 n L H a true c d v1 (.slice (some ⟨w.heap.size, 0, none⟩) (n * n) (n * n)) v3 v4 (w.alloc (.cells (madeCells #[.slice none 0 0] (n * n)) 39)) := by
 obtain ⟨k, h1, -, h3, h4⟩ := h.ow
 have hs := h.be.size
 have hb := below_allocL w (.cells (madeCells #[.slice none 0 0] (n * n)) 39)
 exact ⟨h.be.trans (hb.mono hs), rcol k w.heap.size 3, fun e => by
  obtain ⟨u, o⟩ := h1 e
  exact ⟨u, (o.mono fun j hj hl => hj.old hl).below hb⟩, fun _ => ZL.made _ w _ ⟨hs, rcol_new (Nat.le_refl _)⟩ _ hn, fun e => ((h3 e).mono fun j hj hl => hj.old hl).below hb, fun e => by
  obtain ⟨N, hN⟩ := h4 e
  exact ⟨N, NwF.keepBox hN hb⟩⟩
theorem NwF.three (h : NwF W1 n L H a b c d v1 v2 v3 v4 w) (hn : n ≤ 1048576) : NwF W1 n L H a b true d v1 v2 (.slice (some ⟨w.heap.size, 0, none⟩) n n) v4 (w.alloc (.cells (madeCells #[.slice none 0 0] n) 33)) := by
 obtain ⟨k, h1, h2, -, h4⟩ := h.ow
 have hs := h.be.size
 have hb := below_allocL w (.cells (madeCells #[.slice none 0 0] n) 33)
 exact ⟨h.be.trans (hb.mono hs), rcol k w.heap.size 4, fun e => by
  obtain ⟨u, o⟩ := h1 e
  exact ⟨u, (o.mono fun j hj hl => hj.old hl).below hb⟩, fun e => ((h2 e).mono fun j hj hl => hj.old hl).below hb, fun _ => ZL.made _ w _ ⟨hs, rcol_new (Nat.le_refl _)⟩ _ hn, fun e => by
  obtain ⟨N, hN⟩ := h4 e
  exact ⟨N, NwF.keepBox hN hb⟩⟩
theorem NwF.four (h : NwF W1 n L H a b c d v1 v2 v3 v4 w) : NwF W1 n L H a b c true v1 v2 v3 (.pointer (some ⟨w.heap.size, 0, none⟩)) (w.alloc (zQ3)) := by
 obtain ⟨k, h1, h2, h3, -⟩ := h.ow
 have hs := h.be.size
 have hb := below_allocL w (zQ3)
 exact ⟨h.be.trans (hb.mono hs), rcol k w.heap.size 0, fun e => by
  obtain ⟨u, o⟩ := h1 e
  exact ⟨u, (o.mono fun j hj hl => hj.old hl).below hb⟩, fun e => ((h2 e).mono fun j hj hl => hj.old hl).below hb, fun e => ((h3 e).mono fun j hj hl => hj.old hl).below hb, fun _ => ⟨_, rfl, hs, BoxC.new w _ _ _ _ _, fun j => new_frozen _ _ _ _ rfl, rcol_new (Nat.le_refl _)⟩⟩
end
structure NwS (W1 : World) (N n : Nat) (L : Nat → Nat) (H : Nat → Nat → I5) (own : Bool) (k : Nat) (w : World) (vp vs vw vh : Value) (c : Nat → Nat) (up us : Nat → Value) : Prop where
 be : Below W1.heap.size W1 w
 bx : BoxC w N vp vs vw vh
 fr : ∀ j, w.frozen? ⟨N, j, none⟩ = false
 bN : W1.heap.size ≤ N
 cN : c N = 0
 p : own = true → LI w (Cl W1.heap.size c 1) vp n up L H
 s : LS w (Cl W1.heap.size c 2) vs k us fun _ => newS
 t : ZL 39 w (Cl W1.heap.size c 3) vw (n * n)
 h : ZL 33 w (Cl W1.heap.size c 4) vh n
section
variable {W1 : World} {N n : Nat} {L : Nat → Nat} {H : Nat → Nat → I5} {own : Bool} {k : Nat} {w : World} {vp vs vw vh : Value} {c : Nat → Nat} {up us : Nat → Value}
theorem NwS.lt (h : NwS W1 N n L H own k w vp vs vw vh c up us) : N < w.heap.size := World.block_lt_of_cell? w _ h.bx.1
theorem NwS.below {w' : World} (h : NwS W1 N n L H own k w vp vs vw vh c up us) (hb : Below w.heap.size w w') : NwS W1 N n L H own k w' vp vs vw vh c up us :=
 ⟨h.be.trans (hb.mono h.be.size), h.bx.below hb, fun j => ((bcell hb).2 _ j h.lt).trans (h.fr j), h.bN, h.cN, fun e => (h.p e).below hb, h.s.below hb, h.t.below hb, h.h.below hb⟩
theorem NwS.start {a : Bool} {v1 v2 v3 v4 : Value} (h : NwF W1 n L H own true true true v1 v2 v3 v4 w) (ho : own = a) (_hvp : a = true ∨ True) : ∃ N c up us, v4 = .pointer (some ⟨N, 0, none⟩) ∧ N < w.heap.size ∧ BoxC w N (.slice none 0 0) (.slice none 0 0) (.slice none 0 0) (.slice none 0 0) ∧ (∀ j, w.frozen? ⟨N, j, none⟩ = false) ∧ NwS W1 N n L H own 0 ((((w.setCell ⟨N, 0, none⟩ v1).setCell ⟨N, 1, none⟩ (.slice none 0 0)).setCell ⟨N, 2, none⟩ v2).setCell ⟨N, 3, none⟩ v3) v1 (.slice none 0 0) v2 v3 c up us := by
 obtain ⟨k, h1, h2, h3, h4⟩ := h.ow
 obtain ⟨N, e, hN, bx, fr, cN⟩ := h4 rfl
 have hl := World.block_lt_of_cell? w _ bx.1
 have hk : ∀ i, i ≠ 0 → ∀ j, Cl W1.heap.size k i j → j < w.heap.size → ((((w.setCell ⟨N, 0, none⟩ v1).setCell ⟨N, 1, none⟩ (.slice none 0 0)).setCell ⟨N, 2, none⟩ v2).setCell ⟨N, 3, none⟩ v3).heap[j]? = w.heap[j]? := fun i hi j hj _ => by
  have hne : j ≠ N := fun e => hi (by rw [← hj.2, e, cN])
  exact (Below.heap_setCell _ _ _ _ hne).trans ((Below.heap_setCell _ _ _ _ hne).trans ((Below.heap_setCell _ _ _ _ hne).trans (Below.heap_setCell _ _ _ _ hne)))
 obtain ⟨u, hu⟩ : ∃ u, own = true → LI w (Cl W1.heap.size k 1) v1 n u L H := by
  cases own with
  | false => exact ⟨fun _ => .slice none 0 0, fun e => by cases e⟩
  | true => obtain ⟨u, o⟩ := h1 rfl; exact ⟨u, fun _ => o⟩
 obtain ⟨g0, g1, g2, g3⟩ := id bx
 exact ⟨N, k, u, fun _ => .slice none 0 0, e, hl, bx, fr, (((h.be.setCell hN _).setCell hN _).setCell hN _).setCell hN _, BoxC.set4 ⟨g0, g1, g2, g3⟩ _ _ _ _, fun j => by simp only [World.frozen?_setCell]; exact fr j, hN, cN, fun e => (hu e).keep (hk 1 (by decide)), LS.nil _ _ _ _, (h2 rfl).keep (hk 3 (by decide)), (h3 rfl).keep (hk 4 (by decide))⟩
theorem NwS.push (h : NwS W1 N n L H own k w vp vs vw vh c up us) {w1 w3 : World} {u' v' : Value} (b1 : Below w.heap.size w w1) (hu : StOwn w1 w.heap.size u' 0 [0, 0, 0, 0] [] 0) (hv : w3.ownsRow 0 37 4 v' (k + 1) (flat (fun i => cellsL (us i)) k ++ cellsL u')) (g : w1.grownBy w3 vs.ownBlock) (hv' : ∀ j, v'.ownBlock = some j → vs.ownBlock = some j ∨ w1.heap.size ≤ j) :
  NwS W1 N n L H own (k + 1) (w3.setCell ⟨N, 1, none⟩ v') vp v' vw vh (rcol c w.heap.size 2) up (fun j => if j = k then u' else us j) := by
 have hN := h.lt
 have hB := h.be.size
 have hkeep : ∀ j, j < w.heap.size → c j ≠ 2 → w3.heap[j]? = w.heap[j]? := fun j hk hc => (g.block j (Nat.lt_of_lt_of_le hk b1.size) fun e => hc (h.s.rb j e.symm).2).trans (b1.block j hk)
 have hset : ∀ j, j ≠ N → (w3.setCell ⟨N, 1, none⟩ v').heap[j]? = w3.heap[j]? := fun j hk => Below.heap_setCell _ _ _ _ hk
 have hcN : rcol c w.heap.size 2 N = 0 := (rcol_old hN).trans h.cN
 have hBN : w3.heap[N]? = w.heap[N]? := hkeep N hN (by rw [h.cN]; decide)
 have hkk : ∀ i, i ≠ 2 → i ≠ 0 → ∀ j, Cl W1.heap.size (rcol c w.heap.size 2) i j → j < w.heap.size → (w3.setCell ⟨N, 1, none⟩ v').heap[j]? = w.heap[j]? := fun i h2 h0 j hk hl => by
  have e : c j = i := (rcol_old hl).symm.trans hk.2
  exact (hset j fun en => h0 (by rw [← e, en, h.cN])).trans (hkeep j hl (by rw [e]; exact h2))
 have hP : ∀ i j, Cl W1.heap.size c i j → j < w.heap.size → Cl W1.heap.size (rcol c w.heap.size 2) i j := fun i j hk hl => hk.old hl
 have hP' : ∀ j, w.heap.size ≤ j → j < w3.heap.size → Cl W1.heap.size (rcol c w.heap.size 2) 2 j := fun j hk _ => ⟨Nat.le_trans hB hk, rcol_new hk⟩
 obtain ⟨x0, x1, x2, x3⟩ := h.bx
 have hc : ∀ j, w3.cell? ⟨N, j, none⟩ = w.cell? ⟨N, j, none⟩ := fun j => World.cell?_of_block hBN
 have hnew : ∀ j, Cl W1.heap.size (rcol c w.heap.size 2) 2 j → j < w3.heap.size → (w3.setCell ⟨N, 1, none⟩ v').heap[j]? = w3.heap[j]? := fun j hk _ => hset j fun e => by
  have e2 := hk.2
  rw [e, hcN] at e2
  cases e2
 have hbe : Below W1.heap.size W1 w3 := Below.grown (h.be.trans (b1.mono hB)) g (Nat.le_trans hB b1.size) fun j hj => (h.s.rb j hj).1
 refine ⟨hbe.setCell h.bN _, ⟨?_, ?_, ?_, ?_⟩, fun j => ?_, h.bN, hcN, fun e => ?_, ?_, ?_, ?_⟩
 ·rw [World.cell?_setCell_other _ _ _ _ (by simp), hc]; exact x0
 ·exact World.cell?_setCell_same _ _ _ ((hc 1).trans x1)
 ·rw [World.cell?_setCell_other _ _ _ _ (by simp), hc]; exact x2
 ·rw [World.cell?_setCell_other _ _ _ _ (by simp), hc]; exact x3
 ·rw [World.frozen?_setCell, World.frozen?_of_block hBN]; exact h.fr j
 ·exact ((h.p e).mono (hP 1)).keep (hkk 1 (by decide) (by decide))
 ·exact (h.s.push b1 hu hv g hv' (hP 2) hP').keep hnew
 ·exact (h.t.mono (hP 3)).keep (hkk 3 (by decide) (by decide))
 ·exact (h.h.mono (hP 4)).keep (hkk 4 (by decide) (by decide))
theorem NwS.own1 (h : NwS W1 N n L H true k w vp vs vw vh c up us) (hk : k = n) : Own1 w W1.heap.size w.heap.size n L H vp vs vw vh := by
 subst hk
 exact ⟨rcol c w.heap.size 0, up, us, ⟨(h.p rfl).mono fun j hj hl => hj.old hl, h.s.mono fun j hj hl => hj.old hl, h.t.mono fun j hj hl => hj.old hl, h.h.mono fun j hj hl => hj.old hl⟩, fun b hb => rcol_new hb⟩
theorem Own1.out4 {B T M : Nat} (o : Own1 w B T n L H vp vs vw vh) (hM : M < B) (a1 a2 a3 a4 : Value) : Own1 ((((w.setCell ⟨M, 0, none⟩ a1).setCell ⟨M, 1, none⟩ a2).setCell ⟨M, 2, none⟩ a3).setCell ⟨M, 3, none⟩ a4) B T n L H vp vs vw vh := by
 have t := (((Touch.refl (fun b => b = M) w).trans (Touch.of_set (P := fun b => b = M) _ (a := ⟨M, 0, none⟩) rfl a1)).trans (Touch.of_set (P := fun b => b = M) _ (a := ⟨M, 1, none⟩) rfl a2)).trans (Touch.of_set (P := fun b => b = M) _ (a := ⟨M, 2, none⟩) rfl a3)
 exact o.touch (t.trans (Touch.of_set (P := fun b => b = M) _ (a := ⟨M, 3, none⟩) rfl a4)) fun b e => .inr (by omega)
theorem Own1.base {B B' T T' : Nat} (o : Own1 w B T n L H vp vs vw vh) (hB : B' ≤ B) (hT : T' = T) : Own1 w B' T' n L H vp vs vw vh := by
 subst hT
 obtain ⟨c, up, us, o, h⟩ := o
 exact ⟨c, up, us, ⟨o.p.mono fun j hj _ => ⟨Nat.le_trans hB hj.1, hj.2⟩, o.s.mono fun j hj _ => ⟨Nat.le_trans hB hj.1, hj.2⟩, o.t.mono fun j hj _ => ⟨Nat.le_trans hB hj.1, hj.2⟩, o.h.mono fun j hj _ => ⟨Nat.le_trans hB hj.1, hj.2⟩⟩, h⟩
def nwX (pa : Option Addr) (n pc : Nat) (A : Nat → Option Addr) (L C : Nat → Nat) (H : Nat → Nat → I5) (vs vw vh : Value) (us : Nat → Value) : SysIn :=
 ⟨pa, n, pc, A, L, C, H, adOf vs, n, cpOf vs, fun i => ⟨0, adOf (fdOf (us i) 1), cpOf (fdOf (us i) 1), [0, 0, 0, 0], adOf (fdOf (us i) 2), cpOf (fdOf (us i) 2), [], 0⟩, adOf vw, n * n, cpOf vw, fun _ => none, fun _ => 0, fun _ => 0, fun _ _ => ⟨false, 0⟩, adOf vh, n, cpOf vh, fun _ => none, fun _ => 0, fun _ => 0, fun _ _ => ⟨0, 0, 0⟩⟩
theorem nwX_y (pa : Option Addr) (n pc : Nat) (A : Nat → Option Addr) (L C : Nat → Nat) (H : Nat → Nat → I5) (vs vw vh : Value) (us : Nat → Value) : (nwX pa n pc A L C H vs vw vh us).y = nwY n L H := rfl
theorem nwX_g {P1 P3 P4 : Nat → Prop} {pa : Option Addr} {pc : Nat} {A : Nat → Option Addr} {C : Nat → Nat} (hs : LS w P1 vs n us fun _ => newS) (ht : ZL 39 w P3 vw (n * n)) (hh : ZL 33 w P4 vh n) (hr : RowS w pa n fun i => .slice (A i) (L i) (C i)) (hI : ∀ i, i < n → ∃ b, A i = some ⟨b, 0, none⟩ ∧ b < w.heap.size ∧ InsAt w b 0 (L i) (H i)) : SysG w (nwX pa n pc A L C H vs vw vh us) := by
 refine ⟨hr, hI, ⟨?_, fun i hi => ?_⟩, ht.rowS, fun i hi => .inl rfl, hh.rowS, fun i hi => .inl rfl⟩
 ·rcases Nat.eq_zero_or_pos n with h0 | h0
  ·exact .inl h0
  ·obtain ⟨g, cap, rfl, -, hg, -, -⟩ := hs.cell h0
   refine .inr ⟨g, 0, rfl, hg, fun i hi => ?_⟩
   obtain ⟨g', cap', ew, -, -, hc, -⟩ := hs.cell hi
   simp only [Value.slice.injEq, Option.some.injEq, Addr.mk.injEq, and_true, true_and] at ew
   obtain ⟨rfl, rfl⟩ := ew
   obtain ⟨ra, rc, oa, oc, eu, h0, h1, h2, h3⟩ := hc
   show w.cell? ⟨g, 0 + i * 4, none⟩ = some (.int .i64 0) ∧ w.cell? ⟨g, 0 + i * 4 + 1, none⟩ = some (.slice (adOf (fdOf (us i) 1)) 4 (cpOf (fdOf (us i) 1))) ∧ w.cell? ⟨g, 0 + i * 4 + 2, none⟩ = some (.slice (adOf (fdOf (us i) 2)) 0 (cpOf (fdOf (us i) 2))) ∧ w.cell? ⟨g, 0 + i * 4 + 3, none⟩ = some (.int .i64 0)
   rw [Nat.zero_add, eu]
   exact ⟨h0, h1, h2, h3⟩
 ·obtain ⟨g, cap, -, -, -, ⟨ra, rc, oa, oc, eu, -⟩, -⟩ := hs.cell hi
  have h4 := hs.own i hi
  rw [eu] at h4
  show Sl w (adOf (fdOf (us i) 1)) [0, 0, 0, 0] ∧ Sl w (adOf (fdOf (us i) 2)) []
  rw [eu]
  exact ⟨h4.parts.1.slOf, h4.parts.2.1.slOf⟩
theorem NwS.g {pa : Option Addr} {pc : Nat} {A : Nat → Option Addr} {C : Nat → Nat} (h : NwS W1 N n L H own n w vp vs vw vh c up us) (hr : RowS w pa n fun i => .slice (A i) (L i) (C i)) (hI : ∀ i, i < n → ∃ b, A i = some ⟨b, 0, none⟩ ∧ b < w.heap.size ∧ InsAt w b 0 (L i) (H i)) : SysG w (nwX pa n pc A L C H vs vw vh us) :=
 nwX_g h.s h.t h.h hr hI
theorem nwX_len {pa : Option Addr} {pc : Nat} {A : Nat → Option Addr} {C : Nat → Nat} (hn : n ≤ 4) (hL : ∀ i, i < n → L i ≤ 1048576) : (nwX pa n pc A L C H vs vw vh us).Len := by
 have h16 : n * n ≤ 16 := Nat.le_trans (Nat.mul_le_mul hn hn) (by omega)
 exact ⟨⟨by show n ≤ 1048576; omega, hL⟩, ⟨by show n ≤ 1048576; omega, fun i _ => ⟨by show 4 ≤ 1048576; omega, by show 0 ≤ 1048576; omega⟩⟩, ⟨by show n * n ≤ 1048576; omega, fun i _ => Nat.zero_le _⟩, ⟨by show n ≤ 1048576; omega, fun i _ => Nat.zero_le _⟩⟩
end
open Go.RowKit Go.Extern.Stop Go.Stop Go.Extern
theorem elemVT (a p : Addr) (W : World) (ha : W.cell? a = some (.pointer (some p))) :
  (ReflectliteValue.method (ReflectliteValue.valueError "reflectlite.Value.Elem" 0) ReflectliteValue.elem #[.agg #[.pointer (some ⟨1, 100, none⟩), .pointer (some a), .int .u64 150]]).run Tryz.prog W
   = .ok (.agg #[.pointer (some ⟨1, 98, none⟩), .pointer (some p), .int .u64 409]) W := by
 rw [rlm]
 simp only [Sem.run_bind, partsT, Result.andThen]
 simp [ReflectliteValue.elem, loadVar, isAgg, underlying, Tryz.underlying100, ha, Result.andThen, elemOfT, mkE]
theorem rls (v x : Value) : ReflectliteValue.set #[v, x] = (do
  let (some (dst, a, fl), some (src, b, _)) := (← ReflectliteValue.parts v, ← ReflectliteValue.parts x)
   | unsupported (.noEntry "extern/(internal/reflectlite.Value).Set.zeroValue")
  if fl / ReflectliteValue.flagAddr % 2 == 0 then unsupported (.noEntry "extern/(internal/reflectlite.Value).Set.unaddressable")
  let val ← loadVar src b
  if ← Rtype.directlyAssignable dst src then storeVar dst a val
  else if ← Rtype.implements dst src then
   if (← Rtype.kind src) == 20 then
    match val with
    | .nilIface => unsupported (.noEntry "extern/reflectlite: a nil value of one interface type handed on as a value of another")
    | _ => storeVar dst a val
   else storeVar dst a (.iface src val)
  else panicString ("reflectlite.Set: value of type " ++ (← Rtype.spelt src) ++ " is not assignable to type " ++ (← Rtype.spelt dst))
  pure (.tuple #[])) := rfl
theorem partsEa (a : Addr) (w : World) : (ReflectliteValue.parts (.agg #[.pointer (some ⟨1, 98, none⟩), .pointer (some a), .int .u64 409])).run Tryz.prog w = .ok (some (98, a, 409)) w := by kernel_rfl
theorem partsE (a : Addr) (w : World) : (ReflectliteValue.parts (.agg #[.pointer (some ⟨1, 98, none⟩), .pointer (some a), .int .u64 153])).run Tryz.prog w = .ok (some (98, a, 153)) w := by kernel_rfl
theorem directE (w : World) : (Rtype.directlyAssignable 98 98).run Tryz.prog w = .ok true w := by kernel_rfl
theorem setE (ta b : Addr) (x : Int) (old : Value) (W : World) (hb : W.cell? b = some (.int .i64 x)) (ht : W.cell? ta = some old) (hf : W.frozen? ta = false) :
  (ReflectliteValue.set #[.agg #[.pointer (some ⟨1, 98, none⟩), .pointer (some ta), .int .u64 409], .agg #[.pointer (some ⟨1, 98, none⟩), .pointer (some b), .int .u64 153]]).run Tryz.prog W
   = .ok (.tuple #[]) (W.setCell ta (.int .i64 x)) := by
 rw [rls]
 simp only [Sem.run_bind, partsEa, partsE, Result.andThen]
 simp [ReflectliteValue.flagAddr, loadVar, loadCells, loadCellsFrom, hb, Result.andThen, directE, storeVar, Value.cells, storeCells, Addr.add]
 rw [run_store Tryz.prog W ta _ _ (by rfl)]
 simp [ht, hf]
open Go.Sort
theorem Touch.set {P : Nat → Prop} {w w' : World} (h : Touch P w w') {a : Addr} (ha : P a.block) (u : Value) : Touch P w (w'.setCell a u) := h.trans (Touch.of_set w' ha u)
theorem Touch.sets {P : Nat → Prop} {b : Nat} (hb : P b) : ∀ (vs : List Value) (o : Nat) {w w' : World}, Touch P w w' → Touch P w (w'.setCells b o vs)
 | [], _, _, _, h => h
 | v :: r, o, _, _, h => Touch.sets hb r (o + 1) (h.set (a := ⟨b, o, none⟩) hb v)
theorem infoHis : (Tryz.prog.info? 62).map (·.size) = some 21 := by kernel_rfl
theorem rowBack (X Bf Hb : Nat) (w : World) (cs : List Value) (hl : cs.length = 21) (h1 : ∀ v ∈ cs, v.oneCell' = true) (hB : w.rangeAt Bf 0 cs) (hT : w.there X 4 21) (hH : w.cell? ⟨Hb, 0, none⟩ = some (.pointer (some ⟨X, 4, none⟩))) (u : FrameMode) :
  CallsD Tryz.prog 52 #[.pointer (some ⟨Bf, 0, none⟩), .pointer (some ⟨Hb, 0, none⟩)] u w fun e u' w' => u' = u ∧ (e = .returned (.tuple #[]) ∧ Touch (fun b => b = X) w w') := by
 have HB : Hid (w.rangeAt Bf 0 cs) := hB
 have HT : Hid (w.there X 4 cs.toArray.size) := by rw [show cs.toArray.size = 21 by simp [hl]]; exact hT
 have HI : Hid ((Tryz.prog.info? 62).map (·.size) = some cs.length) := by rw [hl]; exact infoHis
 have HO : Hid (cs.toArray.all (·.oneCell') = true) := all_oneCell_toArray h1
 clear hB hT h1 hl
 go_enter_d Tryz.func52, Tryz.ntmps52
 go_wp2_with (first | (refine wpList_load_mid rfl 62 (.tmp 0) rfl Bf 0 rfl cs _ HB.out Tryz.underlying62 rfl HI.out ?_) | (refine wpList_store_mid rfl 62 (.tmp 4) (.tmp 3) rfl X 4 cs.toArray rfl rfl HT.out (by simpa using HI.out) HO.out ?_))
 go_end0
 exact ⟨rfl, Touch.sets (P := fun b => b = X) rfl _ _ (Touch.refl _ _)⟩
def hisL (ha : Option Addr) (hc : Nat) (y : Hs) (d : Nat → Nat) : List Value :=
 [.slice ha y.n hc, .int .i64 (d 0), .int .i64 (d 1), .int .i64 (d 2), .int .i64 (d 3),
  .int .i64 (y.opn d 0 0), .int .i64 (y.opn d 0 1), .int .i64 (y.opn d 0 2), .int .i64 (y.opn d 0 3), .int .i64 (y.opn d 1 0), .int .i64 (y.opn d 1 1), .int .i64 (y.opn d 1 2), .int .i64 (y.opn d 1 3),
  .int .i64 (y.opn d 2 0), .int .i64 (y.opn d 2 1), .int .i64 (y.opn d 2 2), .int .i64 (y.opn d 2 3), .int .i64 (y.opn d 3 0), .int .i64 (y.opn d 3 1), .int .i64 (y.opn d 3 2), .int .i64 (y.opn d 3 3)]
theorem HisP.range {w : World} {X : Nat} {ha : Option Addr} {hc : Nat} {y : Hs} {d : Nat → Nat} (h : HisP w X ha hc y d) : w.rangeAt X 4 (hisL ha hc y d) := by
 intro j v hj
 have hl : j < 21 := by
  have := (List.getElem?_eq_some_iff.1 hj).1
  simpa [hisL] using this
 match j, hl, hj with
 | 0, _, hj => rw [← hj]; exact h.c4
 | 1, _, hj => rw [← hj]; exact h.pt 0 (by omega)
 | 2, _, hj => rw [← hj]; exact h.pt 1 (by omega)
 | 3, _, hj => rw [← hj]; exact h.pt 2 (by omega)
 | 4, _, hj => rw [← hj]; exact h.pt 3 (by omega)
 | 5, _, hj => rw [← hj]; exact h.op 0 0 (by omega) (by omega)
 | 6, _, hj => rw [← hj]; exact h.op 0 1 (by omega) (by omega)
 | 7, _, hj => rw [← hj]; exact h.op 0 2 (by omega) (by omega)
 | 8, _, hj => rw [← hj]; exact h.op 0 3 (by omega) (by omega)
 | 9, _, hj => rw [← hj]; exact h.op 1 0 (by omega) (by omega)
 | 10, _, hj => rw [← hj]; exact h.op 1 1 (by omega) (by omega)
 | 11, _, hj => rw [← hj]; exact h.op 1 2 (by omega) (by omega)
 | 12, _, hj => rw [← hj]; exact h.op 1 3 (by omega) (by omega)
 | 13, _, hj => rw [← hj]; exact h.op 2 0 (by omega) (by omega)
 | 14, _, hj => rw [← hj]; exact h.op 2 1 (by omega) (by omega)
 | 15, _, hj => rw [← hj]; exact h.op 2 2 (by omega) (by omega)
 | 16, _, hj => rw [← hj]; exact h.op 2 3 (by omega) (by omega)
 | 17, _, hj => rw [← hj]; exact h.op 3 0 (by omega) (by omega)
 | 18, _, hj => rw [← hj]; exact h.op 3 1 (by omega) (by omega)
 | 19, _, hj => rw [← hj]; exact h.op 3 2 (by omega) (by omega)
 | 20, _, hj => rw [← hj]; exact h.op 3 3 (by omega) (by omega)
theorem hisL_one {ha : Option Addr} {hc : Nat} {y : Hs} {d : Nat → Nat} : ∀ v ∈ hisL ha hc y d, v.oneCell' = true := by
 intro v hv
 simp only [hisL, List.mem_cons, List.not_mem_nil, or_false] at hv
 rcases hv with rfl | rfl | rfl | rfl | rfl | rfl | rfl | rfl | rfl | rfl | rfl | rfl | rfl | rfl | rfl | rfl | rfl | rfl | rfl | rfl | rfl <;> rfl
theorem HisP.thereX {w : World} {X : Nat} {ha : Option Addr} {hc : Nat} {y : Hs} {d : Nat → Nat} (h : HisP w X ha hc y d) : w.there X 4 21 := fun j hj => ⟨h.range.isSome j (by simpa [hisL] using hj), h.fr _⟩
theorem sumL_same {d e : Nat → Nat} : ∀ {n : Nat}, (∀ i, i < n → d i = e i) → sumL d n = sumL e n
 | 0, _ => rfl
 | n + 1, h => by
  show sumL d n + d n = sumL e n + e n
  rw [sumL_same fun i hi => h i (by omega), h n (by omega)]
theorem sumL_zero : ∀ n, sumL (fun _ => 0) n = 0
 | 0 => rfl
 | n + 1 => sumL_zero n
theorem sumL_up {d : Nat → Nat} {k : Nat} : ∀ {n : Nat}, k < n → sumL (up d k) n = sumL d n + 1
 | 0, h => by omega
 | n + 1, h => by
  show sumL (up d k) n + up d k n = sumL d n + d n + 1
  by_cases e : k = n
  ·subst e
   rw [up_same]
   have : sumL (up d k) k = sumL d k := sumL_same fun i hi => up_other (by omega)
   omega
  ·rw [sumL_up (by omega), up_other (by omega)]
   omega
theorem sumL_le {d l : Nat → Nat} (h : ∀ i, d i ≤ l i) : ∀ n, sumL d n ≤ sumL l n
 | 0 => Nat.le_refl _
 | n + 1 => by
  have := sumL_le h n
  have := h n
  show sumL d n + d n ≤ sumL l n + l n
  omega
structure Rw (w0 W wr : World) (X Bf Hb : Nat) (ha : Option Addr) (hc : Nat) (y : Hs) (cs : List Value) (d : Nat → Nat) : Prop where
 pu : y.Put d
 hp : HisP wr X ha hc y d
 be : Below w0.heap.size w0 wr
 hb : wr.cell? ⟨Hb, 0, none⟩ = some (.pointer (some ⟨X, 4, none⟩))
 bf : wr.rangeAt Bf 0 cs
theorem rangeAt_touch {P : Nat → Prop} {w w' : World} {b o : Nat} {cs : List Value} (h : w.rangeAt b o cs) (t : Touch P w w') (hb : ¬ P b) : w'.rangeAt b o cs := fun j v hv => by
 have := h j v hv
 rw [t.cell (World.block_lt_of_cell? w _ this) hb]
 exact this
theorem Rw.touch {w0 W wr w' : World} {X Bf Hb : Nat} {ha : Option Addr} {hc : Nat} {y : Hs} {cs : List Value} {d d' : Nat → Nat} (h : Rw w0 W wr X Bf Hb ha hc y cs d) (t : Touch (fun b => b = X) wr w') (hX : w0.heap.size ≤ X) (hB : Bf ≠ X) (hH : Hb ≠ X) (pu : y.Put d') (hp : HisP w' X ha hc y d') : Rw w0 W w' X Bf Hb ha hc y cs d' :=
 ⟨pu, hp, h.be.trans (t.below h.be.size fun b e => by omega), (t.cell (World.block_lt_of_cell? wr _ h.hb) hH 0).trans h.hb, rangeAt_touch h.bf t hB⟩
theorem canRow_any (X : Nat) (ha : Option Addr) (hc : Nat) (hA : Nat → Option Addr) (hC : Nat → Nat) (y : Hs) (w0 w : World) (hE : HisE w0 ha hA hC y) (hb : Below w0.heap.size w0 w) (hX : w0.heap.size ≤ X) (hP : HisP w X ha hc y (fun _ => 0)) (h4 : y.n ≤ 4) (hp : y.Peers) (hl : ∀ i, i < y.n → y.l i ≤ 200) :
  Calls Tryz.prog 32 #[.pointer (some ⟨X, 4, none⟩)] w fun e w' => e = .returned (.bool (qB y.Row)) ∧ Below w0.heap.size w0 w' := by
 have HE : Hid (HisE w0 ha hA hC y) := hE
 have HH : Hid (y.Peers ∧ (∀ i, i < y.n → y.l i ≤ 200) ∧ w0.heap.size ≤ X) := ⟨hp, hl, hX⟩
 have zX := hP.lt
 obtain ⟨cs, hcs, hlen, hone⟩ : ∃ cs, w.rangeAt X 4 cs ∧ cs.length = 21 ∧ ∀ v ∈ cs, v.oneCell' = true := ⟨_, hP.range, rfl, hisL_one⟩
 have hsz : cs.toArray.size = 21 := by simpa using hlen
 have HL21 : Hid (cs.length = 21 ∧ ∀ v ∈ cs, v.oneCell' = true) := ⟨hlen, hone⟩
 have HI : Hid ((Tryz.prog.info? 62).map (·.size) = some cs.length) := by rw [hlen]; exact infoHis
 have HR : Hid ((w.alloc (.cells #[.pointer (some ⟨X, 4, none⟩)] 83)).rangeAt X 4 cs) := World.rangeAt_alloc hcs _
 have HO : Hid (cs.toArray.all (·.oneCell') = true) := all_oneCell_toArray hone
 have hmf : ∀ (fn : Fn) (first cap : Array Value) (w : World), (Instr.makeFunc fn first cap).run Tryz.prog w = .ok (.func fn first cap) w := fun _ _ _ _ => rfl
 have HT : Hid (((w.alloc (.cells #[.pointer (some ⟨X, 4, none⟩)] 83)).alloc (zQ4)).there (w.heap.size + 1) 0 cs.toArray.size) := fun j hj => by
  have hj' : j < 21 := by rw [← hsz]; exact hj
  refine ⟨?_, new_frozen _ _ _ _ (by simp)⟩
  rw [Nat.zero_add, new_cell _ _ _ j (by simp), Array.getElem?_eq_getElem (by simpa using hj')]
  rfl
 have tw : Touch (fun b => b = w.heap.size + 1) w (((w.alloc (.cells #[.pointer (some ⟨X, 4, none⟩)] 83)).alloc (zQ4)).setCells (w.heap.size + 1) 0 cs) := Touch.sets (P := fun b => b = w.heap.size + 1) rfl _ _ (Touch.of_below ((below_alloc _ _).trans ((below_alloc _ _).mono (by simp))))
 have HRw : Hid (Rw w0 w (((w.alloc (.cells #[.pointer (some ⟨X, 4, none⟩)] 83)).alloc (zQ4)).setCells (w.heap.size + 1) 0 cs) X (w.heap.size + 1) w.heap.size ha hc y cs (fun _ => 0)) := by
  refine ⟨.start, hP.blk (tw.block X zX (by omega)), hb.trans (tw.below hb.size fun b e => by have := hb.size; omega), ?_, World.rangeAt_setCells_same _ _ _ _ (by simpa using HT.out)⟩
  rw [World.cell?_setCells_out _ _ _ _ _ (fun e => absurd e (by simp)), World.cell?_alloc_lt _ _ _ (by simp)]
  exact new_cell _ _ _ 0 rfl
 have HX : Hid (X < w.heap.size) := zX
 clear hE hp hl hX tw hb hP zX hlen hsz hcs hone
 go_enter_defers Tryz.func32, Tryz.ntmps32
 have h0 := HRw.out.hb
 go_wp2_with (first | (refine wpList_load_mid rfl 62 (.tmp 6) rfl X 4 rfl cs _ HR.out Tryz.underlying62 rfl HI.out ?_) | (refine wpList_store_mid rfl 62 (.tmp 3) (.tmp 7) rfl (w.heap.size + 1) 0 cs.toArray rfl rfl HT.out (by simpa using HI.out) HO.out ?_))
 clear HR HT HI HO
 generalize ((w.alloc (.cells #[.pointer (some ⟨X, 4, none⟩)] 83)).alloc (zQ4)).setCells (w.heap.size + 1) 0 cs = W1 at *
 have nX : Hid (w.heap.size + 1 ≠ X ∧ w.heap.size ≠ X) := by
  have := HX.out
  exact ⟨by omega, by omega⟩
 refine (next_any X ha hc hA hC y (fun _ => 0) W1 (HE.out.below HRw.out.be) HRw.out.hp h4 HH.out.1 HH.out.2.1 HRw.out.pu.le).mono ?_
 rintro e w1 ⟨q1, hor⟩
 have HNx : Hid (Rw w0 w w1 X (w.heap.size + 1) w.heap.size ha hc y cs (fun _ => 0)) := HRw.out.touch (Touch.of_below q1) HH.out.2.2 nX.out.1 nX.out.2 HRw.out.pu (HRw.out.hp.below q1)
 obtain ⟨z, rfl, HOr⟩ : ∃ z : Int, e = .returned (.int .i64 z) ∧ Hid ((∃ k, k < y.n ∧ y.Can (fun _ => 0) k ∧ z = (k : Nat)) ∨ (z = -1 ∧ ∀ p, p < y.n → ¬ y.Can (fun _ => 0) p)) := by
  rcases hor with ⟨k, hk, hcan, rfl⟩ | ⟨rfl, hn⟩
  ·exact ⟨_, rfl, .inl ⟨k, hk, hcan, rfl⟩⟩
  ·exact ⟨_, rfl, .inr ⟨rfl, hn⟩⟩
 clear hor q1 h0 HRw
 go_wp2_with fail
 go_loopg [4] (sumL y.l y.n) (fun k p wr => ∃ d z, k = sumL y.l y.n - sumL d y.n ∧ p = .int .i64 z ∧ Rw w0 w wr X (w.heap.size + 1) w.heap.size ha hc y cs d ∧ Hid ((∃ k, k < y.n ∧ y.Can d k ∧ z = (k : Nat)) ∨ (z = -1 ∧ ∀ p, p < y.n → ¬ y.Can d p)))
 case atStart => exact ⟨_, z, by simp [sumL_zero], rfl, HNx.out, HOr.out⟩
 case round =>
  clear HNx HOr
  obtain ⟨d, zz, hgk, rfl, rw0, HOr⟩ := hrel
  have HRr : Hid (Rw w0 w wr X (w.heap.size + 1) w.heap.size ha hc y cs d) := rw0
  have h1 := rw0.hb
  have HG : Hid (gk = sumL y.l y.n - sumL d y.n) := hgk
  clear rw0 hgk
  rcases HOr.out with ⟨k, hk, hcan, rfl⟩ | ⟨rfl, hst⟩
  ·have HCn : Hid (y.Can d k) := hcan
   have hz : ¬ (k : Int) = -1 := by omega
   have hz' : ((k : Int) == -1) = false := by simp
   clear HOr hcan
   go_wp2_with fail
   refine (putOne_any X ha hc hA hC y d k wr (HE.out.below HRr.out.be) HRr.out.hp h4 hk HH.out.1 HH.out.2.1 HRr.out.pu.le HCn.out.1).mono ?_
   rintro e w1 ⟨rfl, hp1, t1⟩
   have hpu : y.Put (up d k) := .next HRr.out.pu hk HCn.out
   have HN : Hid (Rw w0 w w1 X (w.heap.size + 1) w.heap.size ha hc y cs (up d k)) := HRr.out.touch t1 HH.out.2.2 nX.out.1 nX.out.2 hpu hp1
   have HM : Hid (sumL y.l y.n - sumL (up d k) y.n < gk) := by
    have h2 := sumL_up (d := d) hk
    have h3 := sumL_le hpu.le y.n
    have h4 := HG.out
    show sumL y.l y.n - sumL (up d k) y.n < gk
    omega
   clear hp1 t1 hpu h1 HRr HG hz hz'
   generalize up d k = d2 at *
   have h1 := HN.out.hb
   go_wp2_with fail
   refine (next_any X ha hc hA hC y d2 w1 (HE.out.below HN.out.be) HN.out.hp h4 HH.out.1 HH.out.2.1 HN.out.pu.le).mono ?_
   rintro e w2 ⟨q2, hor⟩
   have HN2 : Hid (Rw w0 w w2 X (w.heap.size + 1) w.heap.size ha hc y cs d2) := HN.out.touch (Touch.of_below q2) HH.out.2.2 nX.out.1 nX.out.2 HN.out.pu (HN.out.hp.below q2)
   obtain ⟨z, rfl, HOr⟩ : ∃ z : Int, e = .returned (.int .i64 z) ∧ Hid ((∃ k, k < y.n ∧ y.Can d2 k ∧ z = (k : Nat)) ∨ (z = -1 ∧ ∀ p, p < y.n → ¬ y.Can d2 p)) := by
    rcases hor with ⟨k, hk, hcan, rfl⟩ | ⟨rfl, hn⟩
    ·exact ⟨_, rfl, .inl ⟨k, hk, hcan, rfl⟩⟩
    ·exact ⟨_, rfl, .inr ⟨rfl, hn⟩⟩
   clear hor q2 h1 HN
   go_wp2
   go_roundg (sumL y.l y.n - sumL d2 y.n)
   case measure => exact HM.out
   case rel => exact ⟨d2, z, rfl, rfl, HN2.out, HOr.out⟩
  ·have HRow : Hid (qB (y.All d) = qB y.Row) := by
    show qB (y.All d) = qB y.Row
    have hi := Hs.row_iff HRr.out.pu HH.out.1 hst
    by_cases hr : y.Row
    ·rw [qB_true hr, qB_true (hi.1 hr)]
    ·rw [qB_false hr, qB_false (fun h => hr (hi.2 h))]
   have HN : Hid (Rw w0 w wr X (w.heap.size + 1) w.heap.size ha hc y cs d) := HRr.out
   clear hst HG HOr HRr
   go_wp2_with fail
   refine (allPut_any X ha hc hA hC y d wr (HE.out.below HN.out.be) HN.out.hp h4 HH.out.2.1 HN.out.pu.le).mono ?_
   rintro e w2 ⟨rfl, b2⟩
   rw [HRow.out]
   have B2 : Hid (Below wr.heap.size wr w2) := b2
   clear b2 h1
   have HB2 : Hid (Below w0.heap.size w0 w2 ∧ w2.rangeAt (w.heap.size + 1) 0 cs ∧ w2.there X 4 21 ∧ w2.cell? ⟨w.heap.size, 0, none⟩ = some (.pointer (some ⟨X, 4, none⟩))) :=
    ⟨HN.out.be.trans (B2.out.mono HN.out.be.size), rangeAt_touch (P := fun _ => False) HN.out.bf (Touch.of_below B2.out) (fun h => h), (HN.out.hp.below B2.out).thereX, (B2.out.cell (p := ⟨w.heap.size, 0, none⟩) (World.block_lt_of_cell? wr _ HN.out.hb)).trans HN.out.hb⟩
   go_wp2
   refine leaves_cons (f := 52) (args := #[.pointer (some ⟨w.heap.size + 1, 0, none⟩), .pointer (some ⟨w.heap.size, 0, none⟩)]) (by simp) (by simp [go_sem]) ?_
   refine (rowBack X (w.heap.size + 1) w.heap.size w2 cs HL21.out.1 HL21.out.2 HB2.out.2.1 HB2.out.2.2.1 HB2.out.2.2.2 .returning).mono ?_
   rintro e u' w3 ⟨rfl, rfl, t3⟩
   exact ⟨_, results_tmp rfl _ _ _, rfl, HB2.out.1.trans (t3.below HB2.out.1.size fun b e => by have := HH.out.2.2; omega)⟩
end Go.Proofs.YtdmpcnmbnfdfmaaGreatDoor
