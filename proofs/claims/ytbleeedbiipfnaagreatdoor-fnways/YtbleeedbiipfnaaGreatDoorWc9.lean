/- A region that draws its order, whose last operations write what others of it read: what is read may be taken first, so long as all that writes it waits for that. -/
import Derived.Test.YtbleeedbiipfnaaGreatDoorWc0
import Derived.Test.YtbleeedbiipfnaaGreatDoorWc8
import Derived.Test.YtbleeedbiipfnaaGreatDoorWc7
import Derived.Maps.AppendAt
import Derived.Test.YtbleeedbiipfnaaGreatDoorRows
import Derived.WalkKit
import Derived.WalkSpells
import Derived.WalkLawsBesides
import Derived.Handy
import Derived.Deep.QuietTactic
import Derived.BigQuiet
import Derived.OrdersHeld
import Derived.Deep.RegionHeld3
namespace Go.Proofs.YtbleeedbiipfnaaGreatDoor
set_option maxRecDepth 100000
set_option maxHeartbeats 1000000
open Go.RowKit
structure I5 where
 o : Int
 r : Int
 a : Int
 b : Int
 n : Int
def InsAt (w : World) (b off len : Nat) (g : Nat → I5) : Prop := ∀ i, i < len →
 w.cell? ⟨b, off + i * 5, none⟩ = some (.int .i64 (g i).o) ∧ w.cell? ⟨b, off + i * 5 + 1, none⟩ = some (.int .i64 (g i).r) ∧ w.cell? ⟨b, off + i * 5 + 2, none⟩ = some (.int .i64 (g i).a) ∧ w.cell? ⟨b, off + i * 5 + 3, none⟩ = some (.int .i64 (g i).b) ∧ w.cell? ⟨b, off + i * 5 + 4, none⟩ = some (.int .i64 (g i).n)
theorem InsAt.below {w w' : World} {B b off len : Nat} {g : Nat → I5} (h : InsAt w b off len g) (hb : Below B w w') (hB : b < B) : InsAt w' b off len g := by
 intro i hi
 obtain ⟨h0, h1, h2, h3, h4⟩ := h i hi
 exact ⟨(hb.cell hB).trans h0, (hb.cell hB).trans h1, (hb.cell hB).trans h2, (hb.cell hB).trans h3, (hb.cell hB).trans h4⟩
def okAt (g : Nat → I5) (len procs : Int) (i : Nat) : Bool := insOkB (g i).o (g i).r (g i).a (g i).b (g i).n len procs
def allOk (g : Nat → I5) (len procs : Int) (k : Nat) : Bool := (List.range k).all (okAt g len procs)
def progOkB (g : Nat → I5) (len : Nat) (procs : Int) : Bool := allOk g len procs len && (inB len 1 30 && inB procs 1 4)
theorem allOk_succ (g : Nat → I5) (len procs : Int) (k : Nat) : allOk g len procs (k + 1) = (allOk g len procs k && okAt g len procs k) := by
 simp [allOk, List.range_succ]
theorem allOk_false (g : Nat → I5) (len procs : Int) {k m : Nat} (hk : k < m) (h : okAt g len procs k = false) : allOk g len procs m = false := by
 rw [allOk, List.all_eq_false]
 exact ⟨k, List.mem_range.2 hk, by simp [h]⟩
theorem specProgOk_any (b off len cap : Nat) (g : Nat → I5) (procs : Int) (w : World) (hlen : len ≤ maxLen) (hb : b < w.heap.size) (hc : InsAt w b off len g) :
  Calls Tryz.prog 61 #[.slice (some ⟨b, off, none⟩) len cap, .int .i64 procs] w fun e w' => e = .returned (.bool (progOkB g len procs)) ∧ Below w.heap.size w w' := by
 unfold maxLen at hlen
 have HC : Hid (InsAt w b off len g) := hc
 clear hc
 go_enter Tryz.func61, Tryz.ntmps61
 go_wp2_with fail
 go_loopw [5] (fun i wr => ∃ k : Nat, k ≤ len ∧ i = .int .i64 k ∧ Hid (allOk g len procs k = true) ∧ Below w.heap.size w wr) (fun i _ => len - (intOf i).toNat)
 case atStart => exact ⟨0, Nat.zero_le _, rfl, rfl, Below.refl _ _⟩
 case round =>
  obtain ⟨k, hk, rfl, HA, hbw⟩ := hrel
  by_cases hlt : k < len
  ·obtain ⟨c0, c1, c2, c3, c4⟩ := HC.out.below hbw hb k hlt
   rcases Bool.eq_false_or_eq_true (okAt g len procs k) with ho | ho
   ·have HO : Hid (okAt g len procs k = true) := ho
    have ho' : insOkB (g k).o (g k).r (g k).a (g k).b (g k).n len procs = true := ho
    clear ho
    go_wp2_with (go_at_call 121; refine (specInsOk_any _ _ _ _ _ _ _ _).mono ?_; rintro e w1 ⟨rfl, hb1⟩)
    go_roundw
    case rel => exact ⟨k + 1, by omega, by go_num, by rw [Hid, allOk_succ, HA.out, HO.out]; rfl, hbw.trans (hb1.mono hbw.size)⟩
    case measure => simp [intOf]; omega
   ·have HO : Hid (okAt g len procs k = false) := ho
    have ho' : insOkB (g k).o (g k).r (g k).a (g k).b (g k).n len procs = false := ho
    clear ho
    go_wp2_with (go_at_call 121; refine (specInsOk_any _ _ _ _ _ _ _ _).mono ?_; rintro e w1 ⟨rfl, hb1⟩)
    go_ret
    exact ⟨ret_bool (by rw [progOkB, allOk_false g len procs hlt HO.out]; rfl), hbw.trans (hb1.mono hbw.size)⟩
  ·have hkl : k = len := by omega
   have HP : Hid (progOkB g len procs = (inB len 1 30 && inB procs 1 4)) := by
    have hA := HA.out
    rw [hkl] at hA
    rw [Hid, progOkB, hA]; rfl
   clear HA hkl
   rcases Bool.eq_false_or_eq_true (inB len 1 30) with t0 | t0
   all_goals
    go_wp2_with (go_at_call 54; refine (l1In_any _ _ _ _).mono ?_; rintro e w' ⟨rfl, rfl⟩)
    go_ret
    exact ⟨ret_bool (by rw [HP.out, t0] <;> rfl), hbw⟩
theorem implProgOk_any (b off len cap : Nat) (g : Nat → I5) (procs : Int) (w : World) (hlen : len ≤ maxLen) (hb : b < w.heap.size) (hc : InsAt w b off len g) :
  Calls Tryz.prog 110 #[.slice (some ⟨b, off, none⟩) len cap, .int .i64 procs] w fun e w' => e = .returned (.bool (progOkB g len procs)) ∧ Below w.heap.size w w' := by
 unfold maxLen at hlen
 have HC : Hid (InsAt w b off len g) := hc
 clear hc
 by_cases hr : 1 ≤ len ∧ len ≤ 30
 case neg =>
  have hv : progOkB g len procs = false := by
   rw [progOkB, show inB len 1 30 = false from by simp [inB]; omega]; simp
  rw [hv]
  clear hv
  by_cases h1 : len < 1
  ·have h1' : (len : Int) < 1 := by omega
   go_enter Tryz.func110, Tryz.ntmps110
   go_wp2
   go_ret
   exact ⟨rfl, Below.refl _ _⟩
  ·have h1' : ¬ (len : Int) < 1 := by omega
   have h2' : (30 : Int) < len := by omega
   go_enter Tryz.func110, Tryz.ntmps110
   go_wp2
   go_ret
   exact ⟨rfl, Below.refl _ _⟩
 case pos =>
 obtain ⟨r1, r2⟩ := hr
 have h1' : ¬ (len : Int) < 1 := by omega
 have h2' : ¬ (30 : Int) < len := by omega
 go_enter Tryz.func110, Tryz.ntmps110
 go_wp2_with fail
 go_loopw [17] (fun i wr => ∃ k : Nat, k ≤ len ∧ i = .int .i64 k ∧ Hid (allOk g len procs k = true) ∧ Below w.heap.size w wr) (fun i _ => len - (intOf i).toNat)
 case atStart => exact ⟨0, Nat.zero_le _, rfl, rfl, Below.refl _ _⟩
 case round =>
  obtain ⟨k, hk, rfl, HA, hbw⟩ := hrel
  have hs := hbw.size
  by_cases hlt : k < len
  ·obtain ⟨c0, c1, c2, c3, c4⟩ := HC.out.below hbw hb k hlt
   rcases Bool.eq_false_or_eq_true (okAt g len procs k) with ho | ho
   ·have HO : Hid (okAt g len procs k = true) := ho
    have ho' : insOkB (g k).o (g k).r (g k).a (g k).b (g k).n len procs = true := ho
    clear ho
    go_wp2_with (go_at_call 168; refine (implInsOk_any _ _ _ _ _ _ _ _).mono ?_; rintro e w1 ⟨rfl, hb1⟩)
    go_roundw
    case rel => exact ⟨k + 1, by omega, by go_num, by rw [Hid, allOk_succ, HA.out, HO.out]; rfl, (hbw.alloc hs _).trans (hb1.mono (by simp; omega))⟩
    case measure => simp [intOf]; omega
   ·have HO : Hid (okAt g len procs k = false) := ho
    have ho' : insOkB (g k).o (g k).r (g k).a (g k).b (g k).n len procs = false := ho
    clear ho
    go_wp2_with (go_at_call 168; refine (implInsOk_any _ _ _ _ _ _ _ _).mono ?_; rintro e w1 ⟨rfl, hb1⟩)
    go_ret
    exact ⟨ret_bool (by rw [progOkB, allOk_false g len procs hlt HO.out]; rfl), (hbw.alloc hs _).trans (hb1.mono (by simp; omega))⟩
  ·have hkl : k = len := by omega
   have h30 : inB len 1 30 = true := by simp [inB]; omega
   have HP : Hid (progOkB g len procs = true) := by
    have hA := HA.out
    rw [hkl] at hA
    have hp : inB procs 1 4 = true := by
     have h0 : okAt g len procs 0 = true := by
      have := (List.all_eq_true.1 (show (List.range len).all (okAt g len procs) = true from hA)) 0 (List.mem_range.2 (by omega))
      exact this
     simp only [okAt, insOkB, Bool.and_eq_true] at h0
     exact h0.1.2
    rw [Hid, progOkB, hA, h30, hp]; rfl
   clear HA hkl h30
   go_wp2
   go_ret
   exact ⟨ret_bool HP.out.symm, hbw⟩
def rightB (g : Nat → I5) (len : Nat) (p : Int) (rs os : List Int) (code : Int) : Bool := progOkB g len 4 && stOkB len p rs os code && (code == 0)
def nxK (g : Nat → I5) (len : Nat) (p : Int) (rs os : List Int) (code : Int) : Int := if rightB g len p rs os code = true then evK (g p.toNat).o else 0
def nxP (g : Nat → I5) (len : Nat) (p : Int) (rs os : List Int) (code : Int) : Int := if rightB g len p rs os code = true then evP (g p.toNat).o (g p.toNat).n else 0
def nxW (g : Nat → I5) (len : Nat) (p : Int) (rs os : List Int) (code : Int) : Int := if rightB g len p rs os code = true then evW (g p.toNat).o (g p.toNat).a rs else 0
theorem next_wrong {g : Nat → I5} {len : Nat} {p : Int} {rs os : List Int} {code : Int} (h : rightB g len p rs os code = false) : evV (nxK g len p rs os code) (nxP g len p rs os code) (nxW g len p rs os code) = evV 0 0 0 := by
 simp [nxK, nxP, nxW, h]
theorem next_right {g : Nat → I5} {len k : Nat} {rs os : List Int} {code : Int} (h : rightB g len (k : Int) rs os code = true) : evV (nxK g len k rs os code) (nxP g len k rs os code) (nxW g len k rs os code) = evV (evK (g k).o) (evP (g k).o (g k).n) (evW (g k).o (g k).a rs) := by
 simp [nxK, nxP, nxW, h]
theorem ret_ev {a b : Value} (h : a = b) : Ending.returned a = .returned b := by rw [h]
theorem right_ins {g : Nat → I5} {len : Nat} {procs : Int} (h : progOkB g len procs = true) {k : Nat} (hk : k < len) : insOkB (g k).o (g k).r (g k).a (g k).b (g k).n len procs = true := by
 simp only [progOkB, Bool.and_eq_true] at h
 have h1 := h.1
 rw [allOk, List.all_eq_true] at h1
 exact h1 k (List.mem_range.2 hk)
theorem ins_range {o r a b n places procs : Int} (h : insOkB o r a b n places procs = true) : (1 ≤ o ∧ o ≤ 11) ∧ (0 ≤ r ∧ r ≤ 3) ∧ (0 ≤ a ∧ a ≤ 3) ∧ (0 ≤ b ∧ b ≤ 3) := by
 simp only [insOkB, Bool.and_eq_true] at h
 obtain ⟨⟨⟨⟨h1, h2⟩, h3⟩, _⟩, h5⟩ := h
 simp only [inB, decide_eq_true_eq] at h1 h2 h3
 refine ⟨?_, h1, h2, h3⟩
 apply Classical.byContradiction
 intro hn
 rw [opOkB_none _ _ _ _ _ _ _ (by omega)] at h5
 cases h5
theorem right_parts {g : Nat → I5} {len : Nat} {p : Int} {rs os : List Int} {code : Int} (h : rightB g len p rs os code = true) : progOkB g len 4 = true ∧ stOkB len p rs os code = true ∧ code = 0 := by
 simp only [rightB, Bool.and_eq_true, beq_iff_eq] at h
 exact ⟨h.1.1, h.1.2, h.2⟩
theorem st_parts {n : Nat} {p : Int} {rs os : List Int} {code : Int} (h : stOkB n p rs os code = true) : (∃ r0 r1 r2 r3, rs = [r0, r1, r2, r3] ∧ numB r0 = true ∧ numB r1 = true ∧ numB r2 = true ∧ numB r3 = true) ∧ (∃ k : Nat, p = k ∧ k < n) ∧ os.length ≤ 60 ∧ allN os = true := by
 simp only [stOkB, regsB, outB, Bool.and_eq_true, beq_iff_eq, decide_eq_true_eq] at h
 obtain ⟨⟨⟨⟨h4, hr⟩, _⟩, hp⟩, h60, ho⟩ := h
 have h4' : rs.length = 4 := by omega
 refine ⟨?_, ?_, by omega, ho⟩
 ·match rs, h4' with
  | [r0, r1, r2, r3], _ =>
   simp only [allN, List.all_cons, List.all_nil, Bool.and_eq_true, and_true] at hr
   exact ⟨r0, r1, r2, r3, rfl, hr⟩
 ·simp only [belB, decide_eq_true_eq] at hp
  obtain ⟨k, rfl⟩ := Int.eq_ofNat_of_zero_le hp.1
  exact ⟨k, rfl, by omega⟩
theorem nextIn_wrong (b off len cap : Nat) (g : Nat → I5) (p code : Int) (ra oa : Option Addr) (rc oc : Nat) (rs os : List Int) (w : World) (ho : os.length ≤ 1048576) (h1 : Sl w ra rs) (h2 : Sl w oa os) (t2 : progOkB g len 4 = true) (hw : rightB g len p rs os code = false) :
  Calls Tryz.prog 129 #[.slice (some ⟨b, off, none⟩) len cap, stV p ra rs.length rc oa os.length oc code] w fun e w' => e = .returned (evV 0 0 0) ∧ Below w.heap.size w w' := by
 have H1 : Hid (Sl w ra rs) := h1
 have H2 : Hid (Sl w oa os) := h2
 clear h1 h2
 rcases Bool.eq_false_or_eq_true (code != 0) with t0 | t0
 ·clear hw t2
  go_enter Tryz.func129, Tryz.ntmps129
  go_wp2
  refine bodyPost_ret (v := evV 0 0 0) (by simp [results, Tryz.results129, go_sem]) rfl ⟨rfl, ?_⟩
  go_grown
 have hc : (code == 0) = true := by simpa using t0
 have t1 : stOkB len p rs os code = false := by
  simp only [rightB, t2, hc, Bool.and_true, Bool.true_and] at hw
  exact hw
 clear hw hc t2
 go_enter Tryz.func129, Tryz.ntmps129
 go_wp2_with fail
 refine (implStateOk_any _ _ _ _ _ _ _ _ _ rs os _ ho (H1.out.below (by go_grown)) (H2.out.below (by go_grown))).mono ?_
 rintro e w1 ⟨rfl, b1⟩
 have B1 : Hid (Below w.heap.size w w1) := below_up (by go_grown) b1 (by simp; omega)
 obtain ⟨hc1, hf1⟩ := bcell b1
 clear b1
 go_wp2
 refine bodyPost_ret (v := evV 0 0 0) (by simp [results, Tryz.results129, go_sem, hc1]) rfl ⟨rfl, ?_⟩
 have := B1.out
 go_grown
def calcN (o a b n : Int) : Int := if o = 1 then n else if o = 2 then a + b else if o = 3 then a - b else if o = 4 then a * b else if a < b then 1 else 0
def goP (len : Nat) (p : Int) : Int := if (len : Int) ≤ p + 1 then p else p + 1
def goC (len : Nat) (p code : Int) : Int := if (len : Int) ≤ p + 1 then 2 else code
structure S4 where
 p : Int
 rs : List Int
 os : List Int
 c : Int
def goS (len : Nat) (p : Int) (rs os : List Int) (code : Int) : S4 := ⟨goP len p, rs, os, goC len p code⟩
def doneS (len : Nat) (x : I5) (p : Int) (rs os : List Int) (code v : Int) : S4 :=
 if x.o = 6 then goS len p rs os code
 else if x.o = 7 then goS len p (rs.set x.r.toNat v) os code
 else if x.o = 8 then (if os.length = 60 then ⟨p, rs, os, 2⟩ else goS len p rs (os ++ [v]) code)
 else if x.o = 9 then ⟨x.n, rs, os, code⟩
 else if x.o = 10 then (if zi rs x.a.toNat = 0 then ⟨x.n, rs, os, code⟩ else goS len p rs os code)
 else if x.o = 11 then ⟨p, rs, os, 1⟩
 else (if numB (calcN x.o (zi rs x.a.toNat) (zi rs x.b.toNat) x.n) = true then goS len p (rs.set x.r.toNat (calcN x.o (zi rs x.a.toNat) (zi rs x.b.toNat) x.n)) os code else ⟨p, rs, os, 2⟩)
def canB (nk np nv k p v : Int) : Bool :=
 if nk = 3 then (k == 3) && numB v && (if np = 9 then belB p 4 else p == np) else (nk != 0) && (k == nk && (p == np && v == nv))
def doB (g : Nat → I5) (len : Nat) (p : Int) (rs os : List Int) (code k q v : Int) : Bool := canB (nxK g len p rs os code) (nxP g len p rs os code) (nxW g len p rs os code) k q v
def doS (g : Nat → I5) (len : Nat) (p : Int) (rs os : List Int) (code k q v : Int) : S4 :=
 if doB g len p rs os code k q v = true then doneS len (g p.toNat) p rs os code v else ⟨p, rs, os, code⟩
theorem doB_right {g : Nat → I5} {len : Nat} {p : Int} {rs os : List Int} {code k q v : Int} (h : doB g len p rs os code k q v = true) : rightB g len p rs os code = true := by
 apply Classical.byContradiction
 intro hn
 have hn' : rightB g len p rs os code = false := by simpa using hn
 simp [doB, canB, nxK, hn'] at h
theorem mul_bound {a b : Int} (ha : numB a = true) (hb : numB b = true) : -1000000000000000000 ≤ a * b ∧ a * b ≤ 1000000000000000000 := by
 simp only [numB, inB, decide_eq_true_eq] at ha hb
 have h1 : (a.natAbs * b.natAbs : Nat) ≤ 1000000000 * 1000000000 := Nat.mul_le_mul (by omega) (by omega)
 have h2 : (a * b).natAbs = a.natAbs * b.natAbs := Int.natAbs_mul a b
 omega
theorem numB_iff {a : Int} : numB a = true ↔ -1000000000 ≤ a ∧ a ≤ 1000000000 := by simp [numB, inB]
theorem info_int : ∃ i, Tryz.prog.info? 3 = some i ∧ i.zero = some (.int .i64 0) ∧ i.size = 1 ∧ i.bytes = 8 := by
 have hinfo := infoInt
 cases hi : Tryz.prog.info? 3 with
 | none => rw [hi] at hinfo; cases hinfo
 | some i =>
  rw [hi] at hinfo
  simp only [Option.map_some, Option.some.injEq, Prod.mk.injEq] at hinfo
  exact ⟨i, rfl, hinfo⟩
theorem run_append_none (w : World) (ty : TypeId) (B c : Nat) (v : Value) (xs : List Int) (h : OwnI w B v xs) :
  (Builtin.append_ #[37, 37] ty #[v, .slice none 0 c]).run Tryz.prog w = .ok v w := by
 obtain ⟨i, hi, _⟩ := info_int
 rcases h.2 with ⟨rfl, _⟩ | ⟨g, cap, cur, rfl, _, _, hnc, _⟩
 ·simp [Builtin.append_, run_underlying Tryz.underlying37, sizeOf, typeInfo, hi, Builtin.lenOf, Builtin.firstCells]
 ·simp [Builtin.append_, run_underlying Tryz.underlying37, sizeOf, typeInfo, hi, Builtin.lenOf, Builtin.firstCells, hnc, storeCells]
theorem run_append_ints (w : World) (ty : TypeId) (B c : Nat) (v : Value) (a0 : Option Addr) (xs ys : List Int) (h : OwnI w B v xs) (hy : Sl w a0 ys) (hn : xs.length + ys.length ≤ 4000000) (hB : B ≤ w.heap.size) :
  ∃ v' w', (Builtin.append_ #[37, 37] ty #[v, .slice a0 ys.length c]).run Tryz.prog w = .ok v' w' ∧ OwnI w' B v' (xs ++ ys) ∧ w.grownBy w' v.ownBlock ∧ (v'.ownBlock = v.ownBlock ∨ v'.ownBlock = some w.heap.size) := by
 obtain ⟨i, hi, hz, hs, hb⟩ := info_int
 cases a0 with
 | none =>
  have hy0 : ys = [] := by
   rcases hy with h0 | ⟨b, off, e, _⟩
   ·exact h0
   ·cases e
  subst hy0
  exact ⟨v, w, run_append_none w ty B c v xs h, by simpa using h, World.grownBy.refl _ _, .inl rfl⟩
 | some a =>
  have hnews : ∀ j u, (ys.map (Value.int .i64))[j]? = some u → w.cell? (a.add j) = some u := by
   rcases hy with h0 | ⟨b, off, e, hlt, hc⟩
   ·subst h0; intro j u hj; simp at hj
   ·cases e
    exact src_of_sl (.inr ⟨b, off, rfl, hlt, hc⟩) (Below.refl _ _)
  obtain ⟨v', w', h1, h2, h3, _, h5⟩ := run_append_own_at (P := Tryz.prog) w B 37 ty 3 i (.int .i64 0) 1 8 Tryz.underlying37 hi hz hs hb rfl (by decide) v xs.length (xs.map (Value.int .i64)) h a ys.length c (ys.map (Value.int .i64)) (by simp) hnews (one_ints ys) (by unfold maxLen; omega) (by omega) hB
  refine ⟨v', w', h1, ?_, h3, h5⟩
  unfold OwnI
  rw [List.length_append, List.map_append]
  exact h2
theorem wpList_append_ints {ops : Array Oper} {rest : List Oper} {op : Oper} {act : Act} {Q : Exit → Act → World → Prop} (w : World) (hgd : op.guard = none) (s x : Operand)
  (ho : op.op = .call { callee := .builtin .append, args := #[s, x], argTypes := #[37, 37] })
  (B c : Nat) (v : Value) (a0 : Option Addr) (xs ys : List Int) (hs : act.eval s = v) (hx : act.eval x = .slice a0 ys.length c) (hv : OwnI w B v xs) (hy : Sl w a0 ys) (hn : xs.length + ys.length ≤ 4000000) (hB : B ≤ w.heap.size)
  (h : ∀ v' w', OwnI w' B v' (xs ++ ys) → w.grownBy w' v.ownBlock → (v'.ownBlock = v.ownBlock ∨ v'.ownBlock = some w.heap.size) → wpList Tryz.prog ops Q rest (act.put op.dst v') w') :
  wpList Tryz.prog ops Q (op :: rest) act w := by
 obtain ⟨v', w', h1, h2, h3, h4⟩ := run_append_ints w op.type B c v a0 xs ys hv hy hn hB
 refine wpList_plain hgd fun K hK => ?_
 unfold Oper.wp execOp
 simp only [ho, resolve, invoke, builtin, Sem.run_bind, Sem.run_pure, Result.andThen_ok, List.map_toArray, List.map_cons, List.map_nil, hs, hx, h1]
 exact hK _ _ (h v' w' h2 h3 h4)
theorem own_empty (w : World) : OwnI (w.alloc (.cells #[] 3)) w.heap.size (.slice (some ⟨w.heap.size, 0, none⟩) 0 0) [] :=
 World.ownsRow_made (base := w.heap.size) (e := 3) (size := 1) w #[] 0 (Nat.le_refl _) (by unfold maxLen; omega) rfl
theorem own_emptyN (w : World) {N : Nat} (h : N = w.heap.size) : OwnI (w.alloc (.cells #[] 3)) N (.slice (some ⟨N, 0, none⟩) 0 0) [] := by
 subst h
 exact own_empty w
theorem wpList_append_new {ops : Array Oper} {rest : List Oper} {op : Oper} {act : Act} {Q : Exit → Act → World → Prop} (w : World) {N : Nat} (hN : N = w.heap.size) (hgd : op.guard = none) (s x : Operand)
  (ho : op.op = .call { callee := .builtin .append, args := #[s, x], argTypes := #[37, 37] })
  (c : Nat) (a0 : Option Addr) (ys : List Int) (hs : act.eval s = .slice (some ⟨N, 0, none⟩) 0 0) (hx : act.eval x = .slice a0 ys.length c) (hy : Sl w a0 ys) (hn : ys.length ≤ 1048576)
  (h : ∀ v' w', OwnI w' w.heap.size v' ys → Below w.heap.size w w' → wpList Tryz.prog ops Q rest (act.put op.dst v') w') :
  wpList Tryz.prog ops Q (op :: rest) act (w.alloc (.cells #[] 3)) := by
 subst hN
 have hb : Below w.heap.size w (w.alloc (.cells #[] 3)) := (Below.refl _ _).alloc (Nat.le_refl _) _
 refine wpList_append_ints _ hgd s x ho w.heap.size c (.slice (some ⟨w.heap.size, 0, none⟩) 0 0) a0 [] ys hs hx (own_empty w) (hy.below hb) (by simp; omega) (by simp) ?_
 intro v' w' o g _
 exact h v' w' (by simpa using o) (hb.grown g (by simp) (fun k hk => by cases hk; exact Nat.le_refl _))
def STOP (p : Prop) : Prop := p
theorem append_stop {P : Program} {ops : Array Oper} {rest : List Oper} {op : Oper} {act : Act} {Q : Exit → Act → World → Prop} {w : World} {a : Array Operand} {t : Array TypeId} (_ : op.op = .call { callee := .builtin .append, args := a, argTypes := t }) (h : STOP (wpList P ops Q (op :: rest) act w)) : wpList P ops Q (op :: rest) act w := h
theorem clone_any (a0 : Option Addr) (cap : Nat) (xs : List Int) (w : World) (hlen : xs.length ≤ 1048576) (h : Sl w a0 xs) :
  Calls Tryz.prog 174 #[.slice a0 xs.length cap] w fun e w' => ∃ v, e = .returned v ∧ OwnI w' w.heap.size v xs ∧ Below w.heap.size w w' := by
 cases a0 with
 | none =>
  have h0 : xs = [] := by
   rcases h with h0 | ⟨b, off, e, _⟩
   ·exact h0
   ·cases e
  subst h0
  have he : ∀ wx : World, (binOp .eql 37 (.slice none 0 cap) (.slice none 0 0)).run Tryz.prog wx = .ok (.bool true) wx := fun wx => by kernel_rfl
  go_enter Tryz.func174, Tryz.ntmps174
  go_wp2
  go_ret
  exact ⟨_, rfl, World.ownsRow_nil _ _ _ _, Below.refl _ _⟩
 | some a =>
  have HS : Hid (Sl w (some a) xs) := h
  have he : ∀ wx : World, (binOp .eql 37 (.slice (some a) xs.length cap) (.slice none 0 0)).run Tryz.prog wx = .ok (.bool false) wx := fun wx => by kernel_rfl
  clear h
  go_enter Tryz.func174, Tryz.ntmps174
  go_wp2_with (at_builtin; refine wpList_append_ints _ rfl _ _ rfl w.heap.size cap (.slice (some ⟨w.heap.size, 0, none⟩) 0 0) (some a) [] xs rfl rfl (own_empty w) (HS.out.below ((Below.refl _ _).alloc (Nat.le_refl _) _)) (by simp; omega) (by simp) ?_; intro v' w1 o1 g1 _; have HF : Hid (OwnI w1 w.heap.size v' xs ∧ Below w.heap.size w w1) := ⟨by simpa using o1, ((Below.refl _ _).alloc (Nat.le_refl _) _).grown g1 (by simp) (fun k hk => by cases hk; exact Nat.le_refl _)⟩; clear o1 g1)
  go_ret
  exact ⟨_, rfl, HF.out⟩
theorem copyState_any (p code : Int) (ra oa : Option Addr) (rc oc : Nat) (rs os : List Int) (w : World) (hr : rs.length ≤ 1048576) (ho : os.length ≤ 1048576) (h1 : Sl w ra rs) (h2 : Sl w oa os) :
  Calls Tryz.prog 125 #[stV p ra rs.length rc oa os.length oc code] w fun e w' => ∃ v, e = .returned v ∧ StOwn w' w.heap.size v p rs os code ∧ Below w.heap.size w w' := by
 have H1 : Hid (Sl w ra rs) := h1
 have H2 : Hid (Sl w oa os) := h2
 clear h1 h2
 go_enter Tryz.func125, Tryz.ntmps125
 go_wp2_with fail
 refine (clone_any ra rc rs _ hr (H1.out.below (by go_grown))).mono ?_
 rintro e w1 ⟨v1, rfl, o1, b1⟩
 have B1 : Hid (Below w.heap.size w w1) := below_up (by go_grown) b1 (by simp; omega)
 obtain ⟨hc1, hf1⟩ := bcell b1
 have y1 : w.heap.size + 1 < w1.heap.size := by have := b1.size; simp at this; omega
 have y0 : w.heap.size < w1.heap.size := by omega
 obtain ⟨ra1, rc1, rfl, _⟩ := o1.form
 have s0 : w1.cell? ⟨w.heap.size, 0, none⟩ = some (.int .i64 p) := by rw [hc1 _ _ (by simp; omega)]; simp
 have s1 : w1.cell? ⟨w.heap.size, 1, none⟩ = some (.slice ra rs.length rc) := by rw [hc1 _ _ (by simp; omega)]; simp
 have s2 : w1.cell? ⟨w.heap.size, 2, none⟩ = some (.slice oa os.length oc) := by rw [hc1 _ _ (by simp; omega)]; simp
 have s3 : w1.cell? ⟨w.heap.size, 3, none⟩ = some (.int .i64 code) := by rw [hc1 _ _ (by simp; omega)]; simp
 have L1 : Hid (∀ k, (Value.slice ra1 rs.length rc1).ownBlock = some k → w.heap.size + 1 < k ∧ k < w1.heap.size) := fun k hk => by have := o1.lt k hk; simp at this; omega
 have BS : Hid (Below w.heap.size w (w1.setCell ⟨w.heap.size, 1, none⟩ (.slice ra1 rs.length rc1))) := B1.out.setCell (by simp) _
 have O1 : Hid (OwnI (w1.setCell ⟨w.heap.size, 1, none⟩ (.slice ra1 rs.length rc1)) (w.heap.size + 1 + 1) (.slice ra1 rs.length rc1) rs) := by
  simp only [World.size_alloc] at o1
  exact o1.setBelow (by simp; omega) _
 clear o1 b1 B1
 go_wp2_with fail
 refine (clone_any oa oc os _ ho (H2.out.below BS.out)).mono ?_
 rintro e w2 ⟨v2, rfl, o2, b2⟩
 have B2 : Hid (Below w.heap.size w w2) := below_up BS.out b2 (by simp; omega)
 obtain ⟨hc2, hf2⟩ := bcell b2
 obtain ⟨oa2, oc2, rfl, _⟩ := o2.form
 have O1' : Hid (OwnI w2 (w.heap.size + 1 + 1) (.slice ra1 rs.length rc1) rs) := O1.out.below b2
 simp only [World.size_setCell] at o2
 have O2 : Hid (OwnI w2 w1.heap.size (.slice oa2 os.length oc2) os) := o2
 clear o2 b2 BS O1
 go_wp2
 refine bodyPost_ret (v := stV p ra1 rs.length rc1 oa2 os.length oc2 code) (by simp [results, Tryz.results125, go_sem, hc2, y1, hc1]) rfl ⟨_, rfl, ⟨_, _, rfl, ?_, ?_, ?_⟩, ?_⟩
 ·refine OwnI.mono (B := w.heap.size + 1 + 1) ?_ (by omega)
  repeat (refine OwnI.setBelow ?_ (by first | (simp; done) | (simp; omega)) _)
  exact O1'.out
 ·refine OwnI.mono (B := w1.heap.size) ?_ (by omega)
  repeat (refine OwnI.setBelow ?_ (by simpa using by omega) _)
  exact O2.out
 ·intro k hk hk'
  have h1 := L1.out k hk
  have h2 := O2.out.lt k hk'
  omega
 ·have := B2.out
  go_grown
theorem l2Copy_any (p code : Int) (ra oa : Option Addr) (rc oc : Nat) (rs os : List Int) (w : World) (hr : rs.length ≤ 1048576) (ho : os.length ≤ 1048576) (h1 : Sl w ra rs) (h2 : Sl w oa os) :
  Calls Tryz.prog 144 #[stV p ra rs.length rc oa os.length oc code] w fun e w' => ∃ v, e = .returned v ∧ StOwn w' w.heap.size v p rs os code ∧ Below w.heap.size w w' := by
 have H1 : Hid (Sl w ra rs) := h1
 have H2 : Hid (Sl w oa os) := h2
 clear h1 h2
 go_enter Tryz.func144, Tryz.ntmps144
 go_wp2_with (at_builtin; refine append_stop rfl ?_)
 unfold STOP
 refine wpList_append_new _ (N := w.heap.size + 1 + 1) (by simp) rfl _ _ rfl rc ra rs rfl rfl (H1.out.below (by go_grown)) hr ?_
 intro v1 w1 o1 b1
 have B1 : Hid (Below w.heap.size w w1) := below_up (by go_grown) b1 (by simp; omega)
 obtain ⟨hc1, hf1⟩ := bcell b1
 have y1 : w.heap.size + 1 < w1.heap.size := by have := b1.size; simp at this; omega
 have y0 : w.heap.size < w1.heap.size := by omega
 obtain ⟨ra1, rc1, rfl, _⟩ := o1.form
 have s0 : w1.cell? ⟨w.heap.size, 0, none⟩ = some (.int .i64 p) := by rw [hc1 _ _ (by simp; omega)]; simp
 have s1 : w1.cell? ⟨w.heap.size, 1, none⟩ = some (.slice ra rs.length rc) := by rw [hc1 _ _ (by simp; omega)]; simp
 have s2 : w1.cell? ⟨w.heap.size, 2, none⟩ = some (.slice oa os.length oc) := by rw [hc1 _ _ (by simp; omega)]; simp
 have s3 : w1.cell? ⟨w.heap.size, 3, none⟩ = some (.int .i64 code) := by rw [hc1 _ _ (by simp; omega)]; simp
 have L1 : Hid (∀ k, (Value.slice ra1 rs.length rc1).ownBlock = some k → w.heap.size + 1 < k ∧ k < w1.heap.size) := fun k hk => by have := o1.lt k hk; simp at this; omega
 have BS : Hid (Below w.heap.size w (w1.setCell ⟨w.heap.size, 1, none⟩ (.slice ra1 rs.length rc1))) := B1.out.setCell (by simp) _
 have O1 : Hid (OwnI (w1.setCell ⟨w.heap.size, 1, none⟩ (.slice ra1 rs.length rc1)) (w.heap.size + 1 + 1) (.slice ra1 rs.length rc1) rs) := by
  simp only [World.size_alloc] at o1
  exact o1.setBelow (by simp; omega) _
 clear o1 b1 B1
 go_wp2_with (at_builtin; refine append_stop rfl ?_)
 unfold STOP
 refine wpList_append_new (w1.setCell ⟨w.heap.size, 1, none⟩ (.slice ra1 rs.length rc1)) (N := w1.heap.size) (by simp) rfl _ _ rfl oc oa os rfl rfl (H2.out.below BS.out) ho ?_
 intro v2 w2 o2 b2
 have B2 : Hid (Below w.heap.size w w2) := below_up BS.out b2 (by simp; omega)
 obtain ⟨hc2, hf2⟩ := bcell b2
 obtain ⟨oa2, oc2, rfl, _⟩ := o2.form
 have O1' : Hid (OwnI w2 (w.heap.size + 1 + 1) (.slice ra1 rs.length rc1) rs) := O1.out.below b2
 simp only [World.size_setCell] at o2
 have O2 : Hid (OwnI w2 w1.heap.size (.slice oa2 os.length oc2) os) := o2
 clear o2 b2 BS O1
 go_wp2
 refine bodyPost_ret (v := stV p ra1 rs.length rc1 oa2 os.length oc2 code) (by simp [results, Tryz.results144, go_sem, hc2, y1, hc1]) rfl ⟨_, rfl, ⟨_, _, rfl, ?_, ?_, ?_⟩, ?_⟩
 ·refine OwnI.mono (B := w.heap.size + 1 + 1) ?_ (by omega)
  repeat (refine OwnI.setBelow ?_ (by first | (simp; done) | (simp; omega)) _)
  exact O1'.out
 ·refine OwnI.mono (B := w1.heap.size) ?_ (by omega)
  repeat (refine OwnI.setBelow ?_ (by simpa using by omega) _)
  exact O2.out
 ·intro k hk hk'
  have h1 := L1.out k hk
  have h2 := O2.out.lt k hk'
  omega
 ·have := B2.out
  go_grown
theorem i64_and255 (n : Int) : bits .and .i64 n 255 = n % 256 := by
 have h255 : (BitVec.ofInt 64 255).toNat = 2 ^ 8 - 1 := by decide
 have key : (BitVec.ofInt 64 n &&& BitVec.ofInt 64 255).toNat = (n % ((2 ^ 64 : Nat) : Int)).toNat % 2 ^ 8 := by
  rw [BitVec.toNat_and, BitVec.toNat_ofInt, h255, Nat.and_two_pow_sub_one_eq_mod]
 show IntKind.i64.wrap ((BitVec.ofInt 64 n &&& BitVec.ofInt 64 255).toNat : Nat) = n % 256
 rw [key, IntKind.wrap_i64]
 omega
def BytesAt (w : World) (W0 : Nat) (a0 : Option Addr) (len : Nat) : Prop :=
 len = 0 ∨ ∃ b off, a0 = some ⟨b, off, none⟩ ∧ b < W0 ∧ ∀ j, j < len → ∃ z : Int, w.cell? ⟨b, off + j, none⟩ = some (.int .u8 z) ∧ 0 ≤ z ∧ z ≤ 255
structure Cur (w : World) (W0 c : Nat) (a0 : Option Addr) (len cap : Nat) : Prop where
 ex : ∃ (i : Nat) (h : Int), w.cell? ⟨c, 0, none⟩ = some (.slice a0 len cap) ∧ w.cell? ⟨c, 1, none⟩ = some (.int .i64 i) ∧ w.cell? ⟨c, 2, none⟩ = some (.int .i64 h)
 fr : ∀ o, w.frozen? ⟨c, o, none⟩ = false
 lt : c < w.heap.size
 ge : W0 ≤ c
 by' : BytesAt w W0 a0 len
 ln : len ≤ 1048576
theorem BytesAt.kept {w w' : World} {W0 len : Nat} {a0 : Option Addr} (h : BytesAt w W0 a0 len) (hb : ∀ k, k < W0 → w'.heap[k]? = w.heap[k]?) : BytesAt w' W0 a0 len := by
 rcases h with h | ⟨b, off, e, hlt, hz⟩
 ·exact .inl h
 ·refine .inr ⟨b, off, e, hlt, fun j hj => ?_⟩
  obtain ⟨z, hz1, hz2⟩ := hz j hj
  exact ⟨z, (World.cell?_of_block (hb b hlt)).trans hz1, hz2⟩
theorem Cur.kept {w w' : World} {W0 c len cap : Nat} {a0 : Option Addr} {row : Option Nat} (h : Cur w W0 c a0 len cap) (hg : w.grownBy w' row) (hne : some c ≠ row) (hr : ∀ k, row = some k → W0 ≤ k) : Cur w' W0 c a0 len cap := by
 have hc := hg.block c h.lt hne
 obtain ⟨i, hh, h0, h1, h2⟩ := h.ex
 refine ⟨⟨i, hh, (World.cell?_of_block hc).trans h0, (World.cell?_of_block hc).trans h1, (World.cell?_of_block hc).trans h2⟩, fun o => (World.frozen?_of_block hc).trans (h.fr o), Nat.lt_of_lt_of_le h.lt hg.size, h.ge, ?_, h.ln⟩
 exact h.by'.kept fun k hk => hg.block k (Nat.lt_trans (Nat.lt_of_lt_of_le hk h.ge) h.lt) (fun e => by have := hr k e.symm; omega)
theorem Cur.alloc {w : World} {W0 c len cap : Nat} {a0 : Option Addr} (h : Cur w W0 c a0 len cap) (o : Obj) : Cur (w.alloc o) W0 c a0 len cap :=
 h.kept (World.grownBy_alloc w o none) (by simp) (fun k hk => by cases hk)
theorem grown_drewN {w w' : World} {row : Option Nat} (h : w.grownBy w' row) (n : Nat) : w.grownBy (w'.drewN n) row := ⟨h.os, h.tape, h.output, h.size, h.block⟩
theorem grown_setCell {w w' : World} {row : Option Nat} (h : w.grownBy w' row) {p : Addr} (hp : row = some p.block ∨ w.heap.size ≤ p.block) (v : Value) : w.grownBy (w'.setCell p v) row :=
 ⟨h.os, h.tape, h.output, by simpa using h.size, fun k hk hne => by
  rw [Below.heap_setCell w' p v k (fun e => by
   subst e
   rcases hp with hp | hp
   ·exact hne hp.symm
   ·omega)]
  exact h.block k hk hne⟩
theorem Cur.drewN {w : World} {W0 c len cap : Nat} {a0 : Option Addr} (h : Cur w W0 c a0 len cap) (n : Nat) : Cur (w.drewN n) W0 c a0 len cap := ⟨h.ex, h.fr, h.lt, h.ge, h.by', h.ln⟩
theorem Cur.drew {w : World} {W0 c len cap : Nat} {a0 : Option Addr} (h : Cur w W0 c a0 len cap) : Cur w.drew W0 c a0 len cap := ⟨h.ex, h.fr, h.lt, h.ge, h.by', h.ln⟩
theorem Cur.bytesSet {w : World} {W0 c len cap : Nat} {a0 : Option Addr} (h : Cur w W0 c a0 len cap) (o : Nat) (v : Value) : BytesAt (w.setCell ⟨c, o, none⟩ v) W0 a0 len :=
 h.by'.kept fun k hk => Below.heap_setCell w ⟨c, o, none⟩ v k (fun e => by have := h.ge; simp at e; omega)
theorem Cur.set2 {w : World} {W0 c len cap : Nat} {a0 : Option Addr} (h : Cur w W0 c a0 len cap) (x : Int) : Cur (w.setCell ⟨c, 2, none⟩ (.int .i64 x)) W0 c a0 len cap := by
 obtain ⟨i, y, h0, h1, h2⟩ := h.ex
 exact ⟨⟨i, x, by go_cell, by go_cell, by go_cell⟩, fun o => by simpa using h.fr o, by simpa using h.lt, h.ge, h.bytesSet _ _, h.ln⟩
theorem Cur.set1 {w : World} {W0 c len cap : Nat} {a0 : Option Addr} (h : Cur w W0 c a0 len cap) (x : Int) (hx : 0 ≤ x) : Cur (w.setCell ⟨c, 1, none⟩ (.int .i64 x)) W0 c a0 len cap := by
 obtain ⟨i, y, h0, h1, h2⟩ := h.ex
 obtain ⟨k, rfl⟩ := Int.eq_ofNat_of_zero_le hx
 exact ⟨⟨k, y, by go_cell, by go_cell, by go_cell⟩, fun o => by simpa using h.fr o, by simpa using h.lt, h.ge, h.bytesSet _ _, h.ln⟩
theorem l1Byte_any (W0 c len cap : Nat) (a0 : Option Addr) (w : World) (hc : Cur w W0 c a0 len cap) :
  Calls Tryz.prog 109 #[.pointer (some ⟨c, 0, none⟩)] w fun e w' => ∃ x : Int, e = .returned (.int .i64 x) ∧ (0 ≤ x ∧ x ≤ 255) ∧ Cur w' W0 c a0 len cap ∧ w.grownBy w' (some c) := by
 have HCur : Hid (Cur w W0 c a0 len cap) := hc
 obtain ⟨⟨i, h, c0, c1, c2⟩, fr, lt, ge, hby, ln⟩ := hc
 have f1 := fr 1
 have f2 := fr 2
 have ln' : (len : Int) ≤ 1048576 := by omega
 have HB : Hid (BytesAt w W0 a0 len) := hby
 clear hby fr
 have hand := i64_and255
 by_cases hil : i < len
 ·have hil' : (i : Int) < (len : Int) := by omega
  rcases HB.out with hb | ⟨b, off, rfl, hbW, hz⟩
  ·omega
  obtain ⟨z, cz, z0, z1⟩ := hz i hil
  have hbc : b ≠ c := by omega
  clear hz
  go_enter Tryz.func109, Tryz.ntmps109
  go_wp2
  generalize wrap64 (wrap64 (h * 6364136223846793005) + 1442695040888963407) = h2
  go_quiet (fail)
  go_wp2
  go_quiet (fail)
  go_wp2
  go_quiet (fail)
  go_wp2
  go_ret
  refine ⟨_, rfl, by omega, ?_, ?_⟩
  ·exact ((HCur.out.set2 h2).drewN _).set1 ((i : Int) + 1) (by omega)
  ·exact grown_setCell (p := ⟨c, 1, none⟩) (grown_drewN (grown_setCell (p := ⟨c, 2, none⟩) (World.grownBy.refl w (some c)) (.inl rfl) _) _) (.inl rfl) _
 ·have hil' : ¬ ((i : Int) < (len : Int)) := by omega
  go_enter Tryz.func109, Tryz.ntmps109
  go_wp2
  generalize wrap64 (wrap64 (h * 6364136223846793005) + 1442695040888963407) = h2
  go_quiet (fail)
  go_wp2
  go_quiet (fail)
  go_wp2
  go_ret
  refine ⟨_, rfl, by omega, ?_, ?_⟩
  ·exact ((HCur.out.set2 h2).drewN _).drewN _
  ·exact grown_drewN (grown_drewN (grown_setCell (World.grownBy.refl _ _) (.inl rfl) _) _) _
theorem l1Below_any (W0 c len cap : Nat) (a0 : Option Addr) (n : Int) (w : World) (hc : Cur w W0 c a0 len cap) (n1 : 1 ≤ n) (n2 : n ≤ 256) :
  Calls Tryz.prog 51 #[.pointer (some ⟨c, 0, none⟩), .int .i64 n] w fun e w' => ∃ x : Int, e = .returned (.int .i64 x) ∧ (0 ≤ x ∧ x < n) ∧ Cur w' W0 c a0 len cap ∧ w.grownBy w' (some c) := by
 have n3 : ¬ n ≤ 0 := by omega
 have n4 : (n == 0) = false := by simp; omega
 have HCur : Hid (Cur w W0 c a0 len cap) := hc
 clear hc
 go_enter Tryz.func51, Tryz.ntmps51
 go_wp2_with fail
 refine (l1Byte_any W0 c len cap a0 _ HCur.out).mono ?_
 rintro e w1 ⟨x, rfl, ⟨x0, x1⟩, hc1, hg1⟩
 have HC1 : Hid (Cur w1 W0 c a0 len cap) := hc1
 have HG1 : Hid (w.grownBy w1 (some c)) := hg1
 clear hc1 hg1
 go_wp2
 go_ret
 exact ⟨_, rfl, ⟨Int.emod_nonneg _ (by omega), Int.emod_lt_of_pos _ (by omega)⟩, HC1.out, HG1.out⟩
theorem l1Once_any (W0 c len cap : Nat) (a0 : Option Addr) (n : Int) (w : World) (hc : Cur w W0 c a0 len cap) (n1 : 1 ≤ n) (n2 : n ≤ 256) :
  Calls Tryz.prog 67 #[.pointer (some ⟨c, 0, none⟩), .int .i64 n] w fun e w' => ∃ x : Bool, e = .returned (.bool x) ∧ Cur w' W0 c a0 len cap ∧ w.grownBy w' (some c) := by
 have HCur : Hid (Cur w W0 c a0 len cap) := hc
 clear hc
 go_enter Tryz.func67, Tryz.ntmps67
 go_wp2_with fail
 refine (l1Below_any W0 c len cap a0 _ _ HCur.out n1 n2).mono ?_
 rintro e w1 ⟨x, rfl, _, hc1, hg1⟩
 have HC1 : Hid (Cur w1 W0 c a0 len cap) := hc1
 have HG1 : Hid (w.grownBy w1 (some c)) := hg1
 clear hc1 hg1
 go_wp2
 go_ret
 exact ⟨_, rfl, HC1.out, HG1.out⟩
def IntsAt (w : World) (b len : Nat) (z : Nat → Int) : Prop := ∀ j, j < len → w.cell? ⟨b, j, none⟩ = some (.int .i64 (z j))
theorem l1PickInt_of (W0 c len cap b m mc : Nat) (a0 : Option Addr) (z : Nat → Int) (w : World) (hc : Cur w W0 c a0 len cap) (n1 : 1 ≤ m) (n2 : m ≤ 256) (hb : b < w.heap.size) (hne : b ≠ c) (hz : IntsAt w b m z) :
  Calls Tryz.prog 70 #[.pointer (some ⟨c, 0, none⟩), .slice (some ⟨b, 0, none⟩) m mc] w fun e w' => ∃ k : Nat, k < m ∧ e = .returned (.int .i64 (z k)) ∧ Cur w' W0 c a0 len cap ∧ w.grownBy w' (some c) := by
 have HCur : Hid (Cur w W0 c a0 len cap) := hc
 have HZ : Hid (IntsAt w b m z) := hz
 clear hc hz
 go_enter Tryz.func70, Tryz.ntmps70
 go_wp2_with fail
 refine (l1Below_any W0 c len cap a0 _ _ HCur.out (by omega) (by omega)).mono ?_
 rintro e w1 ⟨x, rfl, ⟨x0, x1⟩, hc1, hg1⟩
 obtain ⟨k, rfl⟩ := Int.eq_ofNat_of_zero_le x0
 have cz : w1.cell? ⟨b, k, none⟩ = some (.int .i64 (z k)) := (World.cell?_of_block (hg1.block b hb (by simp [hne]))).trans (HZ.out k (by omega))
 have HC1 : Hid (Cur w1 W0 c a0 len cap) := hc1
 have HG1 : Hid (w.grownBy w1 (some c)) := hg1
 clear hc1 hg1
 go_wp2
 go_ret
 exact ⟨k, by omega, rfl, HC1.out, HG1.out⟩
theorem l1PickInt_any (W0 c len cap b m mc : Nat) (a0 : Option Addr) (z : Nat → Int) (w : World) (hc : Cur w W0 c a0 len cap) (n1 : 1 ≤ m) (n2 : m ≤ 256) (hb : b < w.heap.size) (hne : b ≠ c) (hz : IntsAt w b m z) :
  Calls Tryz.prog 70 #[.pointer (some ⟨c, 0, none⟩), .slice (some ⟨b, 0, none⟩) m mc] w fun e w' => ∃ x : Int, e = .returned (.int .i64 x) ∧ Cur w' W0 c a0 len cap ∧ w.grownBy w' (some c) := by
 refine (l1PickInt_of W0 c len cap b m mc a0 z w hc n1 n2 hb hne hz).mono ?_
 rintro e w' ⟨k, -, he, h⟩
 exact ⟨_, he, h⟩
theorem grown_any {w w' : World} (h : w.grownBy w' none) (row : Option Nat) : w.grownBy w' row := ⟨h.os, h.tape, h.output, h.size, fun k hk _ => h.block k hk (by simp)⟩
theorem OwnI.drewN {w : World} {B : Nat} {v : Value} {xs : List Int} (h : OwnI w B v xs) (n : Nat) : OwnI (w.drewN n) B v xs := h
theorem OwnI.setOther {w : World} {B : Nat} {v : Value} {xs : List Int} (h : OwnI w B v xs) {p : Addr} (hne : v.ownBlock ≠ some p.block) (u : Value) : OwnI (w.setCell p u) B v xs :=
 h.kept (row := some p.block) (grown_setCell (World.grownBy.refl w _) (.inl rfl) u) (.inr hne)
theorem below_alloc (w : World) (o : Obj) : Below w.heap.size w (w.alloc o) := (Below.refl _ _).alloc (Nat.le_refl _) o
theorem l2Fault_any (p code : Int) (ra oa : Option Addr) (rn rc on oc : Nat) (w : World) :
  Calls Tryz.prog 192 #[stV p ra rn rc oa on oc code] w fun e w' => e = .returned (stV p ra rn rc oa on oc 2) ∧ Below w.heap.size w w' := by
 go_enter Tryz.func192, Tryz.ntmps192
 go_wp2
 refine bodyPost_ret (v := stV p ra rn rc oa on oc 2) (by simp [results, Tryz.results192, go_sem]) rfl ⟨rfl, ?_⟩
 go_grown
theorem l2Go_any (la : Option Addr) (len lc : Nat) (p code : Int) (ra oa : Option Addr) (rn rc on oc : Nat) (w : World) (h0 : 0 ≤ p) (h1 : p ≤ 1000000000) :
  Calls Tryz.prog 191 #[.slice la len lc, stV p ra rn rc oa on oc code] w fun e w' => e = .returned (stV (goP len p) ra rn rc oa on oc (goC len p code)) ∧ Below w.heap.size w w' := by
 by_cases hp : (len : Int) ≤ p + 1
 ·have e1 : goP len p = p := if_pos hp
  have e2 : goC len p code = 2 := if_pos hp
  rw [e1, e2]
  clear e1 e2
  go_enter Tryz.func191, Tryz.ntmps191
  go_wp2_with fail
  refine (l2Fault_any _ _ _ _ _ _ _ _ _).mono ?_
  rintro e w1 ⟨rfl, b1⟩
  have B1 : Hid (Below w.heap.size w w1) := below_up (by go_grown) b1 (by simp; omega)
  obtain ⟨hc1, hf1⟩ := bcell b1
  clear b1
  go_wp2
  refine bodyPost_ret (v := stV p ra rn rc oa on oc 2) (by simp [results, Tryz.results191, go_sem, hc1]) rfl ⟨rfl, ?_⟩
  have := B1.out
  go_grown
 ·have e1 : goP len p = p + 1 := if_neg hp
  have e2 : goC len p code = code := if_neg hp
  rw [e1, e2]
  clear e1 e2
  go_enter Tryz.func191, Tryz.ntmps191
  go_wp2
  refine bodyPost_ret (v := stV (p + 1) ra rn rc oa on oc code) (by simp [results, Tryz.results191, go_sem]) rfl ⟨rfl, ?_⟩
  go_grown
theorem inB_below (p : Int) (n : Nat) : inB p 0 ((n : Int) - 1) = belB p n := by
 rw [Bool.eq_iff_iff]; simp [inB, belB]; omega
open Go
section
variable {P : Program} {ops : Array Oper} {Q : Exit → Act → World → Prop} {md : Region.Mode} {S : World → Prop} {G : Nat → Bool}
def wpG (P : Program) (md : Region.Mode) (ops : Array Oper) (Q : Exit → Act → World → Prop) (S : World → Prop) (G : Nat → Bool) : Nat → Array Bool → Act → World → Prop
 | 0, listed, a, w => Region.ready md ops listed = [] ∧ Q .normal a w
 | fuel + 1, listed, a, w => (Region.ready md ops listed = [] → Q .normal a w) ∧ ∀ i ∈ Region.ready md ops listed, wpOp P ops Q i (fun a' w' => (S w → G i = false → S w') ∧ wpG P md ops Q S G fuel (listed.setIfInBounds i true) a' w') a w
theorem wpAny_of_G : ∀ (fuel : Nat) (listed : Array Bool) (a : Act) (w : World), wpG P md ops Q S G fuel listed a w → wpAny P md ops Q fuel listed a w
 | 0, _, _, _, h => h
 | fuel + 1, _, _, _, h => ⟨h.1, fun i hi => wpOp_mono (fun a' w' h' => wpAny_of_G fuel _ a' w' h'.2) (h.2 i hi)⟩
def waitG (md : Region.Mode) (ops : Array Oper) (G : Nat → Bool) (listed : Array Bool) (i : Nat) : Bool :=
 (List.range ops.size).all fun j => !G j || listed.getD j true || match ops[j]? with
  | some oj => oj.after.any fun e => Region.binds md e && e.on == i
  | none => true
theorem waitG_spec {listed : Array Bool} {i : Nat} (h : waitG md ops G listed i = true) {j : Nat} {oj : Oper} (hj : ops[j]? = some oj) (hg : G j = true) (hu : listed.getD j true = false) : ∃ e ∈ oj.after, Region.binds md e = true ∧ e.on = i := by
 simp only [waitG, List.all_eq_true, List.mem_range] at h
 have h1 := h j (Array.getElem?_eq_some_iff.1 hj).1
 simp only [hj, hg, hu, Bool.not_true, Bool.false_or] at h1
 obtain ⟨e, he, hb⟩ := Array.any_eq_true'.1 h1
 simp only [Bool.and_eq_true, beq_iff_eq] at hb
 exact ⟨e, he, hb.1, hb.2⟩
theorem wpG_first {i : Nat} {oi : Oper} {v : Value} (hi : ops[i]? = some oi) (hsel : ∀ (j : Nat) (o : Oper) cs b, ops[j]? = some o → o.op ≠ .select cs b)
  (hQ : ∀ c a w, Q (.panic c) (a.put oi.dst v) w → Q (.panic c) a w) :
  ∀ (fuel : Nat) (listed : Array Bool) (a : Act) (w : World),
   (∀ j oj, ops[j]? = some oj → j ≠ i → listed.getD j true = false → (∀ e ∈ oj.after, Region.binds md e = true → e.on ≠ i) → oi.apart ops oj = true) →
   (∀ j oj, ops[j]? = some oj → G j = true → listed.getD j true = false → ∃ e ∈ oj.after, Region.binds md e = true ∧ e.on = i) →
   i ∈ Region.ready md ops listed → YieldsIf P ops S oi v a → S w →
   wpG P md ops Q S G fuel (listed.setIfInBounds i true) (a.put oi.dst v) w → wpG P md ops Q S G (fuel + 1) listed a w := by
 intro fuel
 induction fuel with
 | zero =>
  intro listed a w _ _ hr hy hS H
  refine ⟨fun h => (by rw [h] at hr; cases hr), fun j hj => ?_⟩
  by_cases hji : j = i
  ·subst hji
   exact hy.wpOp hi hS ⟨fun _ _ => hS, H⟩
  ·have := ready_mono hj hji
   rw [H.1] at this
   cases this
 | succ fuel ih =>
  intro listed a w hfree hG hr hy hS H
  refine ⟨fun h => (by rw [h] at hr; cases hr), fun j hj => ?_⟩
  by_cases hji : j = i
  ·subst hji
   exact hy.wpOp hi hS ⟨fun _ _ => hS, H⟩
  ·obtain ⟨hjun, oj, hoj, hall⟩ := mem_ready.1 hj
   have hiun := (mem_ready.1 hr).1
   have hnot : ∀ e ∈ oj.after, Region.binds md e = true → e.on ≠ i := fun e he hb heq => by
    have h1 := hall e he hb
    rw [heq] at h1
    rcases Nat.lt_or_ge i listed.size with h' | h'
    ·simp [h'] at hiun h1
     rw [hiun] at h1
     cases h1
    ·simp [Array.getElem?_eq_none h'] at h1
   have hGj : G j = false := by
    cases hg : G j with
    | false => rfl
    | true =>
     obtain ⟨e, he, hb, heq⟩ := hG j oj hoj hg hjun
     exact absurd heq (hnot e he hb)
   have h2 := wpOp_putIf hoj (hfree j oj hoj hji hjun hnot) (fun cs b => hsel i oi cs b hi) (fun cs b => hsel j oj cs b hoj) hQ hy (H.2 j (ready_mono hj hji))
   have hun' : ∀ k, (listed.setIfInBounds j true).getD k true = false → listed.getD k true = false := fun k hk => by
    by_cases hjk : j = k
    ·subst hjk
     exact hjun
    ·rw [_root_.Go.getD_set_ne true hjk] at hk
     exact hk
   refine wpOp_mono (fun a' w' h3 => ⟨h3.2.1, ih (listed.setIfInBounds j true) a' w' (fun k ok hk hki hun hno => hfree k ok hk hki (hun' k hun) hno) (fun k ok hk hg hun => hG k ok hk hg (hun' k hun)) (ready_mono hr (Ne.symm hji)) h3.1 (h3.2.1 hS hGj) ?_⟩) h2
   rw [Array.setIfInBounds_comm _ _ hji]
   exact h3.2.2
theorem wpG_firstW {i : Nat} {oi : Oper} {v : Value} (hi : ops[i]? = some oi) (hsel : ∀ (j : Nat) (o : Oper) cs b, ops[j]? = some o → o.op ≠ .select cs b)
  (hQ : ∀ c a w, Q (.panic c) (a.put oi.dst v) w → Q (.panic c) a w) :
  ∀ (fuel : Nat) (listed : Array Bool) (a : Act) (w : World),
   (∀ j oj, ops[j]? = some oj → j ≠ i → listed.getD j true = false → (∀ e ∈ oj.after, Region.binds md e = true → e.on ≠ i) → oi.apart ops oj = true) →
   i ∈ Region.ready md ops listed → YieldsIf P ops (fun _ => True) oi v a →
   wpG P md ops Q S G fuel (listed.setIfInBounds i true) (a.put oi.dst v) w → wpG P md ops Q S G (fuel + 1) listed a w := by
 intro fuel
 induction fuel with
 | zero =>
  intro listed a w _ hr hy H
  refine ⟨fun h => (by rw [h] at hr; cases hr), fun j hj => ?_⟩
  by_cases hji : j = i
  ·subst hji
   exact hy.wpOp hi trivial ⟨fun h _ => h, H⟩
  ·have := ready_mono hj hji
   rw [H.1] at this
   cases this
 | succ fuel ih =>
  intro listed a w hfree hr hy H
  refine ⟨fun h => (by rw [h] at hr; cases hr), fun j hj => ?_⟩
  by_cases hji : j = i
  ·subst hji
   exact hy.wpOp hi trivial ⟨fun h _ => h, H⟩
  ·obtain ⟨hjun, oj, hoj, hall⟩ := mem_ready.1 hj
   have hiun := (mem_ready.1 hr).1
   have hnot : ∀ e ∈ oj.after, Region.binds md e = true → e.on ≠ i := fun e he hb heq => by
    have h1 := hall e he hb
    rw [heq] at h1
    rcases Nat.lt_or_ge i listed.size with h' | h'
    ·simp [h'] at hiun h1
     rw [hiun] at h1
     cases h1
    ·simp [Array.getElem?_eq_none h'] at h1
   have h2 := wpOp_putIf hoj (hfree j oj hoj hji hjun hnot) (fun cs b => hsel i oi cs b hi) (fun cs b => hsel j oj cs b hoj) hQ hy (H.2 j (ready_mono hj hji))
   have hun' : ∀ k, (listed.setIfInBounds j true).getD k true = false → listed.getD k true = false := fun k hk => by
    by_cases hjk : j = k
    ·subst hjk
     exact hjun
    ·rw [_root_.Go.getD_set_ne true hjk] at hk
     exact hk
   refine wpOp_mono (fun a' w' h3 => ⟨h3.2.1, ih (listed.setIfInBounds j true) a' w' (fun k ok hk hki hun hno => hfree k ok hk hki (hun' k hun) hno) (ready_mono hr (Ne.symm hji)) h3.1 ?_⟩) h2
   rw [Array.setIfInBounds_comm _ _ hji]
   exact h3.2.2
theorem wpG_takeW (i : Nat) {oi : Oper} {fuel : Nat} {listed : Array Bool} {a : Act} {w : World} (hi0 : ops.toList[i]? = some oi) (hs : Region.noSelect ops = true) (hf : Region.free md ops listed i = true) (hr : (Region.ready md ops listed).contains i = true)
  (hQ : ∀ v c a w, Q (.panic c) (a.put oi.dst v) w → Q (.panic c) a w) (hw : Region.wanted oi (yielded ops a.tmps) = true)
  (h : ∃ v, (∀ w, (execOp a.eval oi).run P w = .ok (.value v) w) ∧ wpG P md ops Q S G fuel (listed.setIfInBounds i true) (a.put oi.dst v) w) : wpG P md ops Q S G (fuel + 1) listed a w := by
 obtain ⟨v, hv, h⟩ := h
 have hi : ops[i]? = some oi := by rw [← Array.getElem?_toList]; exact hi0
 exact wpG_firstW hi (Region.noSelect_spec hs) (hQ v) fuel listed a w (Region.free_spec hi hf) (by simpa using hr) (.inl ⟨hw, fun w _ => hv w⟩) h
theorem wpG_take (i : Nat) {oi : Oper} {fuel : Nat} {listed : Array Bool} {a : Act} {w : World} (hi0 : ops.toList[i]? = some oi) (hS : S w)
  (h : ∃ v, (∀ w, S w → (execOp a.eval oi).run P w = .ok (.value v) w) ∧ wpG P md ops Q S G fuel (listed.setIfInBounds i true) (a.put oi.dst v) w) (hs : Region.noSelect ops = true := by kernel_rfl) (hf : Region.free md ops listed i = true := by kernel_rfl) (hr : (Region.ready md ops listed).contains i = true := by kernel_rfl) (hg : waitG md ops G listed i = true := by kernel_rfl)
  (hQ : ∀ v c a w, Q (.panic c) (a.put oi.dst v) w → Q (.panic c) a w := by exact fun _ _ _ _ h => h) (hw : Region.wanted oi (yielded ops a.tmps) = true := by rfl) : wpG P md ops Q S G (fuel + 1) listed a w := by
 obtain ⟨v, hv, h⟩ := h
 have hi : ops[i]? = some oi := by rw [← Array.getElem?_toList]; exact hi0
 exact wpG_first hi (Region.noSelect_spec hs) (hQ v) fuel listed a w (Region.free_spec hi hf) (fun j oj hj hgj hu => waitG_spec hg hj hgj hu) (by simpa using hr) (.inl ⟨hw, hv⟩) hS h
def wpGT (P : Program) (md : Region.Mode) (ops : Array Oper) (Q : Exit → Act → World → Prop) (S : World → Prop) (G : Nat → Bool) (_ : List Nat) (fuel : Nat) (listed : Array Bool) (a : Act) (w : World) : Prop := wpG P md ops Q S G fuel listed a w
theorem wpGT_of (is : List Nat) {fuel : Nat} {listed : Array Bool} {a : Act} {w : World} (h : wpGT P md ops Q S G is fuel listed a w) : wpG P md ops Q S G fuel listed a w := h
theorem wpGT_nil {fuel : Nat} {listed : Array Bool} {a : Act} {w : World} (h : wpG P md ops Q S G fuel listed a w) : wpGT P md ops Q S G [] fuel listed a w := h
theorem wpGT_take {i : Nat} {is : List Nat} {oi : Oper} {fuel : Nat} {listed : Array Bool} {a : Act} {w : World} (hi0 : ops.toList[i]? = some oi) (hS : S w)
  (h : ∃ v, (∀ w, S w → (execOp a.eval oi).run P w = .ok (.value v) w) ∧ wpGT P md ops Q S G is fuel (listed.setIfInBounds i true) (a.put oi.dst v) w) (hs : Region.noSelect ops = true := by kernel_rfl) (hf : Region.free md ops listed i = true := by kernel_rfl) (hr : (Region.ready md ops listed).contains i = true := by kernel_rfl) (hg : waitG md ops G listed i = true := by kernel_rfl)
  (hQ : ∀ v c a w, Q (.panic c) (a.put oi.dst v) w → Q (.panic c) a w := by exact fun _ _ _ _ h => h) (hw : Region.wanted oi (yielded ops a.tmps) = true := by rfl) : wpGT P md ops Q S G (i :: is) (fuel + 1) listed a w := wpG_take i hi0 hS h hs hf hr hg hQ hw
theorem wpG_one (i : Nat) {oi : Oper} {fuel : Nat} {listed : Array Bool} {a : Act} {w : World} (hi0 : ops.toList[i]? = some oi) (hr : Region.ready md ops listed = [i])
  (h : ∀ K' : Act → World → Prop, Shut (∀ a w, (G i = false → S w) → wpG P md ops Q S G fuel (listed.setIfInBounds i true) a w → K' a w) → if Region.wanted oi (yielded ops a.tmps) = true then Oper.wp P oi a w K' Q else K' (a.put oi.dst undef) w) : wpG P md ops Q S G (fuel + 1) listed a w :=
 ⟨fun h0 => (by rw [hr] at h0; cases h0), fun j hj => by
  rw [hr] at hj
  obtain rfl := List.mem_singleton.1 hj
  have hi : ops[j]? = some oi := by rw [← Array.getElem?_toList]; exact hi0
  exact wpOp_step hi fun K' hK => h K' fun a w h1 h2 => hK a w ⟨fun _ => h1, h2⟩⟩
theorem wpG_two (i j : Nat) {oi oj : Oper} {fuel : Nat} {listed : Array Bool} {a : Act} {w : World} (hi0 : ops.toList[i]? = some oi) (hj0 : ops.toList[j]? = some oj) (hr : Region.ready md ops listed = [i, j])
  (h : ∀ K' : Act → World → Prop, Shut (∀ a w, (G i = false → S w) → wpG P md ops Q S G fuel (listed.setIfInBounds i true) a w → K' a w) → if Region.wanted oi (yielded ops a.tmps) = true then Oper.wp P oi a w K' Q else K' (a.put oi.dst undef) w)
  (h' : ∀ K' : Act → World → Prop, Shut (∀ a w, (G j = false → S w) → wpG P md ops Q S G fuel (listed.setIfInBounds j true) a w → K' a w) → if Region.wanted oj (yielded ops a.tmps) = true then Oper.wp P oj a w K' Q else K' (a.put oj.dst undef) w) : wpG P md ops Q S G (fuel + 1) listed a w :=
 ⟨fun h0 => (by rw [hr] at h0; cases h0), fun k hk => by
  rw [hr] at hk
  have hi : ops[i]? = some oi := by rw [← Array.getElem?_toList]; exact hi0
  have hj : ops[j]? = some oj := by rw [← Array.getElem?_toList]; exact hj0
  rcases List.mem_cons.1 hk with rfl | hk
  ·exact wpOp_step hi fun K' hK => h K' fun a w h1 h2 => hK a w ⟨fun _ => h1, h2⟩
  ·obtain rfl := List.mem_singleton.1 hk
   exact wpOp_step hj fun K' hK => h' K' fun a w h1 h2 => hK a w ⟨fun _ => h1, h2⟩⟩
theorem wpG_done {listed : Array Bool} {a : Act} {w : World} (hr : Region.ready md ops listed = []) (h : Q .normal a w) : ∀ fuel, wpG P md ops Q S G fuel listed a w
 | 0 => ⟨hr, h⟩
 | _ + 1 => ⟨fun _ => h, by rw [hr]; simp⟩
theorem wp_region_G {id : Nat} {a : Act} {w : World} (S : World → Prop) (G : Nat → Bool) (hm : P.follows .mixedOrders = true) (h : wpG P .any ops Q S G ops.size (Array.replicate ops.size false) a w.drew) : (Code.region id ops true).wp P Q a w :=
 wp_region_any hm (wpAny_of_G _ _ _ _ h)
end
end Go.Proofs.YtbleeedbiipfnaaGreatDoor
