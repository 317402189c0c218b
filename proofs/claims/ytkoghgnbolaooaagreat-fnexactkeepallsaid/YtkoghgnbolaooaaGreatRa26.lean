/- The walk of the program's Do. -/
import Derived.Test.YtkoghgnbolaooaaGreatRa24
import Derived.Test.YtkoghgnbolaooaaGreatRa20
import Derived.Test.YtkoghgnbolaooaaGreatRa22
import Derived.Test.YtkoghgnbolaooaaGreatRa23
import Derived.Test.YtkoghgnbolaooaaGreatRa25
import Derived.Test.YtkoghgnbolaooaaGreatRa19
import Derived.Deep.CutRange
namespace Go.Proofs.YtkoghgnbolaooaaGreat
open Go.RowKit

theorem canB_take (np nv k p v : Int) : canB 3 np nv k p v = ((k == 3) && numB v && (if np = 9 then belB p 4 else p == np)) := by
  unfold canB
  rw [if_pos rfl]
theorem canB_other {nk : Int} (h3 : nk ≠ 3) (h0 : nk ≠ 0) (np nv k p v : Int) : canB nk np nv k p v = evEqB k p v nk np nv := by
  unfold canB evEqB
  rw [if_neg h3]
  have : (nk != 0) = true := by simp [h0]
  rw [this, Bool.true_and]
theorem evEqB_true {a b c a' b' c' : Int} (h : evEqB a b c a' b' c' = true) : a = a' ∧ b = b' ∧ c = c' := by
  simpa [evEqB] using h
theorem take_from {x : I5} {len : Int} (h : insOkB x.o x.r x.a x.b x.n len 4 = true) (h7 : x.o = 7) : x.n = 9 ∨ (0 ≤ x.n ∧ x.n ≤ 3) := by
  simp only [insOkB, Bool.and_eq_true] at h
  have h5 := h.2
  unfold opOkB at h5
  rw [h7] at h5
  simp [inB] at h5
  omega

/-- What the model's l2Do leaves: the answer of doS, in memory of its own. -/
def DoneR (w : World) (s : S4) (t : Bool) (e : Ending) (w' : World) : Prop := ∃ v, e = .returned (.tuple #[v, .bool t]) ∧ StOwn w' w.heap.size v s.p s.rs s.os s.c ∧ Below w.heap.size w w'

set_option maxHeartbeats 1000000 in
theorem l2Do_any (b off len cap k : Nat) (g : Nat → I5) (ra oa : Option Addr) (rc oc : Nat) (rs os : List Int) (ek eq ev : Int) (w : World) (hb : b < w.heap.size) (hI : InsAt w b off len g) (h1 : Sl w ra rs) (h2 : Sl w oa os) (hR : rightB g len (k : Int) rs os 0 = true) :
    Calls Tryz.prog 40 #[.slice (some ⟨b, off, none⟩) len cap, stV k ra rs.length rc oa os.length oc 0, evV ek eq ev] w (DoneR w (doS g len k rs os 0 ek eq ev) (doB g len k rs os 0 ek eq ev)) := by
  obtain ⟨hp, hs, -⟩ := right_parts hR
  obtain ⟨⟨r0, r1, r2, r3, hrs, hn0, hn1, hn2, hn3⟩, ⟨k', hkk, hk'⟩, h60, hall⟩ := st_parts hs
  obtain rfl : k = k' := by omega
  have hk := hk'
  have h4 : rs.length = 4 := by rw [hrs]; rfl
  have hnum : allN rs = true := by rw [hrs]; simp [allN, hn0, hn1, hn2, hn3]
  have hl : (len : Int) ≤ 30 := by
    simp only [progOkB, Bool.and_eq_true] at hp
    have := hp.2.1
    simp [inB] at this
    omega
  have hins := right_ins hp hk
  obtain ⟨⟨o1, o11⟩, -⟩ := ins_range hins
  have hN : ∀ K P V, evK (g k).o = K → evP (g k).o (g k).n = P → evW (g k).o (g k).a rs = V → doB g len k rs os 0 ek eq ev = canB K P V ek eq ev := by
    intro K P V hK hP hV
    unfold doB nxK nxP nxW
    rw [if_pos hR, if_pos hR, if_pos hR, Int.toNat_natCast, hK, hP, hV]
  have hno : doB g len k rs os 0 ek eq ev = false → doS g len k rs os 0 ek eq ev = ⟨k, rs, os, 0⟩ := fun h => by
    unfold doS
    rw [if_neg (by rw [h]; decide)]
  have hyes : doB g len k rs os 0 ek eq ev = true → doS g len k rs os 0 ek eq ev = doneS len (g k) k rs os 0 ev := fun h => by
    unfold doS
    rw [if_pos h, Int.toNat_natCast]
  by_cases h7 : (g k).o = 7
  · have eK : evK (g k).o = 3 := by rw [h7]; rfl
    have eP : evP (g k).o (g k).n = (g k).n := by rw [h7]; rfl
    have eV : evW (g k).o (g k).a rs = 0 := by rw [h7]; rfl
    have hc := hN _ _ _ eK eP eV
    rw [canB_take] at hc
    have HN : Hid (evK (g k).o = 3 ∧ evP (g k).o (g k).n = (g k).n ∧ evW (g k).o (g k).a rs = 0) := ⟨eK, eP, eV⟩
    rcases Bool.eq_false_or_eq_true (ek == 3) with t1 | t1
    case inr =>
      rw [t1] at hc
      rw [hc, hno hc]
      exact l2Do_take_no b off len cap k g ra oa rc oc rs os ek eq ev w hl hb hI h4 h60 h1 h2 hk hp _ _ HN (.inl (by simpa using t1))
    have t1' : (ek != 3) = false := by simpa using t1
    obtain rfl : ek = 3 := by simpa using t1
    rcases Bool.eq_false_or_eq_true (numB ev) with t2 | t2
    case inr =>
      rw [t2] at hc
      rw [hc, hno hc]
      exact l2Do_take_no b off len cap k g ra oa rc oc rs os 3 eq ev w hl hb hI h4 h60 h1 h2 hk hp _ _ HN (.inr (.inl ⟨t1', t2⟩))
    rcases take_from hins h7 with h9 | ⟨n0, n3⟩
    · have t3 : ((g k).n != 9) = false := by simp [h9]
      rw [t1, t2, h9, if_pos rfl] at hc
      have hb4 : inB eq 0 3 = belB eq 4 := inB_below eq 4
      rcases Bool.eq_false_or_eq_true (belB eq 4) with t5 | t5
      · rw [t5] at hc
        rw [hc, hyes hc]
        exact l2Do_take_any b off len cap k g ra oa rc oc rs os eq ev w hl hb hI h4 h60 h1 h2 hk hp _ _ HN h7 t2 t3 (hb4.trans t5)
      · rw [t5] at hc
        rw [hc, hno hc]
        exact l2Do_take_no b off len cap k g ra oa rc oc rs os 3 eq ev w hl hb hI h4 h60 h1 h2 hk hp _ _ HN (.inr (.inr (.inr ⟨t1', t2, t3, hb4.trans t5⟩)))
    · have t3 : ((g k).n != 9) = true := by simp; omega
      rw [t1, t2, if_neg (by omega)] at hc
      rcases Bool.eq_false_or_eq_true (eq == (g k).n) with t4 | t4
      · have e4 : eq = (g k).n := by simpa using t4
        rw [t4] at hc
        rw [hc, hyes hc]
        exact l2Do_take_one b off len cap k g ra oa rc oc rs os eq ev w hl hb hI h4 h60 h1 h2 hk hp _ _ HN h7 t2 t3 (by simpa using t4) (by simp [inB]; omega)
      · rw [t4] at hc
        rw [hc, hno hc]
        exact l2Do_take_no b off len cap k g ra oa rc oc rs os 3 eq ev w hl hb hI h4 h60 h1 h2 hk hp _ _ HN (.inr (.inr (.inl ⟨t1', t2, t3, by simpa using t4⟩)))
  by_cases h6 : (g k).o = 6
  · have eK : evK (g k).o = 2 := by rw [h6]; rfl
    have hc := hN _ _ _ eK rfl rfl
    rw [canB_other (by decide) (by decide)] at hc
    have HN : Hid (evK (g k).o = 2 ∧ evP (g k).o (g k).n = evP (g k).o (g k).n ∧ evW (g k).o (g k).a rs = evW (g k).o (g k).a rs) := ⟨eK, rfl, rfl⟩
    rcases Bool.eq_false_or_eq_true (evEqB ek eq ev 2 (evP (g k).o (g k).n) (evW (g k).o (g k).a rs)) with t | t
    · obtain ⟨rfl, rfl, rfl⟩ := evEqB_true t
      rw [t] at hc
      rw [hc, hyes hc]
      exact l2Do_send b off len cap k g ra oa rc oc rs os w hl hb hI h4 h60 h1 h2 hk hp _ _ HN h6
    · rw [t] at hc
      rw [hc, hno hc]
      exact l2Do_no b off len cap k g ra oa rc oc rs os ek eq ev w hl hb hI h4 h60 h1 h2 hk hp 2 _ _ rfl HN t
  by_cases h8 : (g k).o = 8
  · have eK : evK (g k).o = 4 := by rw [h8]; rfl
    have hc := hN _ _ _ eK rfl rfl
    rw [canB_other (by decide) (by decide)] at hc
    have HN : Hid (evK (g k).o = 4 ∧ evP (g k).o (g k).n = evP (g k).o (g k).n ∧ evW (g k).o (g k).a rs = evW (g k).o (g k).a rs) := ⟨eK, rfl, rfl⟩
    rcases Bool.eq_false_or_eq_true (evEqB ek eq ev 4 (evP (g k).o (g k).n) (evW (g k).o (g k).a rs)) with t | t
    · obtain ⟨rfl, rfl, rfl⟩ := evEqB_true t
      rw [t] at hc
      rw [hc, hyes hc]
      by_cases h : os.length = 60
      · exact l2Do_full b off len cap k g ra oa rc oc rs os w hl hb hI h4 h60 h1 h2 hk hp _ _ HN ⟨h8, h⟩ (by simp [h])
      · exact l2Do_print b off len cap k g ra oa rc oc rs os w hl hb hI h4 h60 h1 h2 hk hp _ _ HN ⟨h8, h⟩ (by simp; omega)
    · rw [t] at hc
      rw [hc, hno hc]
      exact l2Do_no b off len cap k g ra oa rc oc rs os ek eq ev w hl hb hI h4 h60 h1 h2 hk hp 4 _ _ rfl HN t
  have eK : evK (g k).o = 1 := by unfold evK; rw [if_neg h6, if_neg h7, if_neg h8]
  have eV : evW (g k).o (g k).a rs = 0 := by unfold evW; rw [if_neg h6, if_neg h8]
  have hc := hN _ _ _ eK rfl eV
  rw [canB_other (by decide) (by decide)] at hc
  have HN : Hid (evK (g k).o = 1 ∧ evP (g k).o (g k).n = evP (g k).o (g k).n ∧ evW (g k).o (g k).a rs = 0) := ⟨eK, rfl, eV⟩
  rcases Bool.eq_false_or_eq_true (evEqB ek eq ev 1 (evP (g k).o (g k).n) 0) with t | t
  · obtain ⟨rfl, rfl, rfl⟩ := evEqB_true t
    rw [t] at hc
    rw [hc, hyes hc]
    exact l2Do_local b off len cap k g ra oa rc oc rs os w hl hb hI h4 h60 h1 h2 hk hp _ HN ⟨hnum, h6, h7, h8⟩
  · rw [t] at hc
    rw [hc, hno hc]
    exact l2Do_no b off len cap k g ra oa rc oc rs os ek eq ev w hl hb hI h4 h60 h1 h2 hk hp 1 _ _ rfl HN t

end Go.Proofs.YtkoghgnbolaooaaGreat

namespace Go.Proofs.YtkoghgnbolaooaaGreat
open Go.RowKit Go.Sort

def StepR (w : World) (B : Nat) (v0 : Value) (os : List Int) (p' a' b' c' d' : Int) (os' : List Int) (code' : Int) (e : Ending) (w' : World) : Prop :=
  ∃ oa' oc', e = .returned (dV p' a' b' c' d' oa' os'.length oc' code') ∧ OwnI w' B (.slice oa' os'.length oc') os' ∧ OwnI w' B v0 os ∧ w.grownBy w' v0.ownBlock ∧ ∀ j, (Value.slice oa' os'.length oc').ownBlock = some j → v0.ownBlock = some j ∨ w.heap.size ≤ j

theorem grown_below {w w' : World} {row : Option Nat} {B : Nat} (h : w.grownBy w' row) (hr : ∀ j, row = some j → B ≤ j) (hB : B ≤ w.heap.size) : Below B w w' :=
  ⟨h.os, h.tape, h.output, h.size, fun k hk => h.block k (by omega) (fun e => by have := hr k e.symm; omega)⟩

/-- The seven cells of a doing in a block. -/
structure DC (w : World) (N : Nat) (p a b c d : Int) (o : Option Addr) (n m : Nat) (code : Int) : Prop where
  d0 : w.cell? ⟨N, 0, none⟩ = some (.int .i64 p)
  d1 : w.cell? ⟨N, 1, none⟩ = some (.int .i64 a)
  d2 : w.cell? ⟨N, 2, none⟩ = some (.int .i64 b)
  d3 : w.cell? ⟨N, 3, none⟩ = some (.int .i64 c)
  d4 : w.cell? ⟨N, 4, none⟩ = some (.int .i64 d)
  d5 : w.cell? ⟨N, 5, none⟩ = some (.slice o n m)
  d6 : w.cell? ⟨N, 6, none⟩ = some (.int .i64 code)
theorem DC.kept {w w' : World} {N : Nat} {p a b c d : Int} {o : Option Addr} {n m : Nat} {code : Int} (h : DC w N p a b c d o n m code) (hb : w'.heap[N]? = w.heap[N]?) : DC w' N p a b c d o n m code :=
  ⟨(World.cell?_of_block hb).trans h.d0, (World.cell?_of_block hb).trans h.d1, (World.cell?_of_block hb).trans h.d2, (World.cell?_of_block hb).trans h.d3, (World.cell?_of_block hb).trans h.d4, (World.cell?_of_block hb).trans h.d5, (World.cell?_of_block hb).trans h.d6⟩
theorem DC.lt {w : World} {N : Nat} {p a b c d : Int} {o : Option Addr} {n m : Nat} {code : Int} (h : DC w N p a b c d o n m code) : N < w.heap.size := World.block_lt_of_cell? w _ h.d0
theorem DC.new (w : World) (p a b c d : Int) (o : Option Addr) (n m : Nat) (code : Int) (t : TypeId) : DC (w.alloc (.cells #[.int .i64 p, .int .i64 a, .int .i64 b, .int .i64 c, .int .i64 d, .slice o n m, .int .i64 code] t)) w.heap.size p a b c d o n m code :=
  ⟨new_cell _ _ _ 0 rfl, new_cell _ _ _ 1 rfl, new_cell _ _ _ 2 rfl, new_cell _ _ _ 3 rfl, new_cell _ _ _ 4 rfl, new_cell _ _ _ 5 rfl, new_cell _ _ _ 6 rfl⟩
theorem grown7 (w : World) (N : Nat) (v0 v1 v2 v3 v4 v5 v6 : Value) : w.grownBy (((((((w.setCell ⟨N, 0, none⟩ v0).setCell ⟨N, 1, none⟩ v1).setCell ⟨N, 2, none⟩ v2).setCell ⟨N, 3, none⟩ v3).setCell ⟨N, 4, none⟩ v4).setCell ⟨N, 5, none⟩ v5).setCell ⟨N, 6, none⟩ v6) (some N) := by
  repeat (refine grown_setCell ?_ (.inl rfl) _)
  exact World.grownBy.refl _ _
/-- A doing is stored over another. -/
theorem DC.put {w : World} {N : Nat} {p a b c d : Int} {o : Option Addr} {n m : Nat} {code : Int} (h : DC w N p a b c d o n m code) (p' a' b' c' d' : Int) (o' : Option Addr) (n' m' : Nat) (code' : Int) :
    DC (((((((w.setCell ⟨N, 0, none⟩ (.int .i64 p')).setCell ⟨N, 1, none⟩ (.int .i64 a')).setCell ⟨N, 2, none⟩ (.int .i64 b')).setCell ⟨N, 3, none⟩ (.int .i64 c')).setCell ⟨N, 4, none⟩ (.int .i64 d')).setCell ⟨N, 5, none⟩ (.slice o' n' m')).setCell ⟨N, 6, none⟩ (.int .i64 code')) N p' a' b' c' d' o' n' m' code' := by
  obtain ⟨d0, d1, d2, d3, d4, d5, d6⟩ := h
  exact ⟨by go_cell, by go_cell, by go_cell, by go_cell, by go_cell, by go_cell, by go_cell⟩

/-- What stands behind the step: the arguments, the doing ahead of it in block N5, the one behind it in block N. -/
def AfterR (w : World) (N5 B : Nat) (k : Int) (ra oa : Option Addr) (rc oc : Nat) (a1 a2 a3 a4 : Int) (os : List Int) (ek eq ev : Int) (o1 : Option Addr) (c1 : Nat) (p' b1 b2 b3 b4 : Int) (os' : List Int) (code' : Int) (wx : World) (N : Nat) : Prop :=
  DoBox wx w.heap.size (.int .i64 k) (.slice ra 4 rc) (.slice oa os.length oc) (.int .i64 0) ek eq ev ∧ DC wx N5 k a1 a2 a3 a4 o1 os.length c1 0 ∧ (∃ o2 c2, DC wx N p' b1 b2 b3 b4 o2 os'.length c2 code' ∧ OwnI wx B (.slice o2 os'.length c2) os') ∧ OwnI wx B (.slice o1 os.length c1) os ∧ Below w.heap.size w wx
theorem AfterR.of_alloc {w : World} {N5 B : Nat} {k : Int} {ra oa : Option Addr} {rc oc : Nat} {a1 a2 a3 a4 : Int} {os : List Int} {ek eq ev : Int} {o1 : Option Addr} {c1 : Nat} {p' b1 b2 b3 b4 : Int} {os' : List Int} {code' : Int} {w8 : World} {o2 : Option Addr} {c2 : Nat} (X8 : DoBox w8 w.heap.size (.int .i64 k) (.slice ra 4 rc) (.slice oa os.length oc) (.int .i64 0) ek eq ev) (Y8 : DC w8 N5 k a1 a2 a3 a4 o1 os.length c1 0) (N8 : OwnI w8 B (.slice o2 os'.length c2) os') (M8 : OwnI w8 B (.slice o1 os.length c1) os) (B8 : Below w.heap.size w w8) (t : TypeId) :
    AfterR w N5 B k ra oa rc oc a1 a2 a3 a4 os ek eq ev o1 c1 p' b1 b2 b3 b4 os' code' (w8.alloc (.cells #[.int .i64 p', .int .i64 b1, .int .i64 b2, .int .i64 b3, .int .i64 b4, .slice o2 os'.length c2, .int .i64 code'] t)) w8.heap.size := by
  have ba := below_alloc w8 (.cells #[.int .i64 p', .int .i64 b1, .int .i64 b2, .int .i64 b3, .int .i64 b4, .slice o2 os'.length c2, .int .i64 code'] t)
  exact ⟨X8.below ba, Y8.kept (ba.block N5 Y8.lt), ⟨o2, c2, DC.new w8 _ _ _ _ _ _ _ _ _ _, N8.below ba⟩, M8.below ba, B8.trans (ba.mono B8.size)⟩
theorem AfterR.of_put {w : World} {N5 B : Nat} {k : Int} {ra oa : Option Addr} {rc oc : Nat} {a1 a2 a3 a4 : Int} {os : List Int} {ek eq ev : Int} {o1 : Option Addr} {c1 : Nat} {p' b1 b2 b3 b4 : Int} {os' : List Int} {code' : Int} {w8 : World} {o2 : Option Addr} {c2 N : Nat} (X8 : DoBox w8 w.heap.size (.int .i64 k) (.slice ra 4 rc) (.slice oa os.length oc) (.int .i64 0) ek eq ev) (Y8 : DC w8 N5 k a1 a2 a3 a4 o1 os.length c1 0) (N8 : OwnI w8 B (.slice o2 os'.length c2) os') (M8 : OwnI w8 B (.slice o1 os.length c1) os) (B8 : Below w.heap.size w w8)
    (hN : N5 < N) (h5 : w.heap.size + 1 + 1 < N5) (hZ : DC w8 N 0 0 0 0 0 none 0 0 0) (nM : ∀ j, (Value.slice o1 os.length c1).ownBlock = some j → j ≠ N) (nN : ∀ j, (Value.slice o2 os'.length c2).ownBlock = some j → j ≠ N) :
    AfterR w N5 B k ra oa rc oc a1 a2 a3 a4 os ek eq ev o1 c1 p' b1 b2 b3 b4 os' code' (((((((w8.setCell ⟨N, 0, none⟩ (.int .i64 p')).setCell ⟨N, 1, none⟩ (.int .i64 b1)).setCell ⟨N, 2, none⟩ (.int .i64 b2)).setCell ⟨N, 3, none⟩ (.int .i64 b3)).setCell ⟨N, 4, none⟩ (.int .i64 b4)).setCell ⟨N, 5, none⟩ (.slice o2 os'.length c2)).setCell ⟨N, 6, none⟩ (.int .i64 code')) N := by
  have gz := grown7 w8 N (.int .i64 p') (.int .i64 b1) (.int .i64 b2) (.int .i64 b3) (.int .i64 b4) (.slice o2 os'.length c2) (.int .i64 code')
  have l8 := Y8.lt
  refine ⟨?_, ?_, ⟨o2, c2, ?_, ?_⟩, ?_, ?_⟩
  · exact X8.kept fun j h1 h2 => gz.block j (by omega) (by simp; omega)
  · exact Y8.kept (gz.block N5 (by omega) (by simp; omega))
  · exact hZ.put _ _ _ _ _ _ _ _ _
  · repeat (refine OwnI.setOther ?_ (fun e => nN _ e rfl) _)
    exact N8
  · repeat (refine OwnI.setOther ?_ (fun e => nM _ e rfl) _)
    exact M8
  · exact B8.trans (grown_below gz (fun j hj => by simp at hj; omega) B8.size)

def settledS (len : Nat) (p a b c d : Int) (os : List Int) (p' a' b' c' d' : Int) (os' : List Int) (code' : Int) : S4 :=
  if regsB [a', b', c', d'] = false ∨ (60 : Int) < (os'.length : Int) then ⟨p, [a, b, c, d], os, 2⟩ else if belB p' len = false then ⟨p, [a', b', c', d'], os', 2⟩ else ⟨p', [a', b', c', d'], os', code'⟩

set_option maxRecDepth 100000 in
set_option maxHeartbeats 1000000 in
theorem doIn_no (b off len cap : Nat) (g : Nat → I5) (p code : Int) (ra oa : Option Addr) (rc oc : Nat) (rs os : List Int) (ek eq ev : Int) (w : World) (hlen : len ≤ maxLen) (hb : b < w.heap.size) (hI : InsAt w b off len g) (hr : rs.length ≤ 1048576) (ho : os.length ≤ 1048576) (h1 : Sl w ra rs) (h2 : Sl w oa os) (hD : canB (nxK g len p rs os code) (nxP g len p rs os code) (nxW g len p rs os code) ek eq ev = false) (hP : progOkB g len 4 = true) :
    Calls Tryz.prog 45 #[.slice (some ⟨b, off, none⟩) len cap, stV p ra rs.length rc oa os.length oc code, evV ek eq ev] w (DoneR w ⟨p, rs, os, code⟩ false) := by
  have HI : Hid (InsAt w b off len g) := hI
  have H1 : Hid (Sl w ra rs) := h1
  have H2 : Hid (Sl w oa os) := h2
  have HL : Hid (len ≤ maxLen) := hlen
  have HP : Hid (progOkB g len 4 = true) := hP
  clear hI h1 h2 hlen hP
  go_enter Tryz.func45, Tryz.ntmps45
  go_wp2_with fail
  have X := DoBox.new w (.int .i64 (p)) (.slice ra rs.length rc) (.slice oa os.length oc) (.int .i64 code) ek eq ev 43 59 43
  have BW : Hid (Below w.heap.size w (((w.alloc (.cells #[.int .i64 p, .slice ra rs.length rc, .slice oa os.length oc, .int .i64 code] 43)).alloc (.cells #[.int .i64 ek, .int .i64 eq, .int .i64 ev] 59)).alloc (.cells #[.int .i64 0, .slice none 0 0, .slice none 0 0, .int .i64 0] 43))) := by
    show Below _ _ _
    go_grown
  generalize (((w.alloc (.cells #[.int .i64 p, .slice ra rs.length rc, .slice oa os.length oc, .int .i64 code] 43)).alloc (.cells #[.int .i64 ek, .int .i64 eq, .int .i64 ev] 59)).alloc (.cells #[.int .i64 0, .slice none 0 0, .slice none 0 0, .int .i64 0] 43)) = W at *
  have HX : Hid (DoBox W w.heap.size (.int .i64 (p)) (.slice ra rs.length rc) (.slice oa os.length oc) (.int .i64 code) ek eq ev) := X
  have l2 := X.lt
  obtain ⟨p0, p1, p2, p3, e0, e1, e2, r0, r1, r2, r3, rf⟩ := X
  have p0' := cell_regrown p0
  have p1' := cell_regrown p1
  have p2' := cell_regrown p2
  have p3' := cell_regrown p3
  have e0' := cell_regrown e0
  have e1' := cell_regrown e1
  have e2' := cell_regrown e2
  have HB' : Hid (∀ d os', Below w.heap.size w (grow (redrawn W d) os')) := fun d os' => BW.out.trans ((below_regrown W d os').mono BW.out.size)
  clear p0 p1 p2 p3 e0 e1 e2 r0 r1 r2 r3 rf
  refine wp_region_quiet_below (by kernel_rfl) (by kernel_rfl) ?_
  repeat (quiet_step (first | (go_at_call 66; exact Calls.regrown_of (nextIn_any b off len cap g (p) code ra oa rc oc rs os _ HL.out (Nat.lt_of_lt_of_le hb (HB'.out _ _).size) (HI.out.below (HB'.out _ _) hb) ho (H1.out.below (HB'.out _ _)) (H2.out.below (HB'.out _ _)) HP.out)) | (go_at_call 65; exact Calls.regrown_of (canCome_any _ _ _ _ _ _ _))))
  refine wpQuiet_nil ?_
  intro _ hw'
  obtain ⟨⟨dq, osq⟩, hw''⟩ := hw'
  subst hw''
  have b3 := below_regrown W dq osq
  have B3 : Hid (Below w.heap.size w (grow (redrawn W dq) osq)) := BW.out.trans (b3.mono BW.out.size)
  have X := HX.out.below b3
  have l3 := X.lt
  generalize grow (redrawn W dq) osq = w3 at *
  clear b3 p0' p1' p2' p3' e0' e1' e2' BW HB' l2 HX
  obtain ⟨p0, p1, p2, p3, e0, e1, e2, r0, r1, r2, r3, rf⟩ := X
  go_wp2_with fail
  refine (copyState_any p code ra oa rc oc rs os _ hr ho (H1.out.below B3.out) (H2.out.below B3.out)).mono ?_
  rintro e w4 ⟨v, rfl, o4, b4⟩
  obtain ⟨ra2, rc2, oa2, oc2, rfl, -, -⟩ := o4.read
  obtain ⟨hc4, hf4⟩ := bcell b4
  have O4 : Hid (StOwn w4 w3.heap.size (stV p ra2 rs.length rc2 oa2 os.length oc2 code) p rs os code) := o4
  have B4 : Hid (Below w.heap.size w w4) := B3.out.trans (b4.mono B3.out.size)
  clear o4 b4
  go_wp2
  refine bodyPost_ret (v := .tuple #[stV p ra2 rs.length rc2 oa2 os.length oc2 code, .bool false]) (by simp [results, Tryz.results45, go_sem, hc4, l3, r0, r1, r2, r3]) rfl ⟨_, rfl, ?_, ?_⟩
  · exact StOwn.put4 (B' := w3.heap.size) O4.out l3 (by omega)
  · have := B4.out
    go_grown

theorem settled_any (p a b c d : Int) (oa : Option Addr) (oc : Nat) (os : List Int) (code p' a' b' c' d' : Int) (oa' : Option Addr) (oc' : Nat) (os' : List Int) (code' : Int) (n B : Nat) (w : World) (h1 : OwnI w B (.slice oa os.length oc) os) (h2 : OwnI w B (.slice oa' os'.length oc') os') (S : S4) (hS : settledS n p a b c d os p' a' b' c' d' os' code' = S) :
    Calls Tryz.prog 69 #[dV p a b c d oa os.length oc code, dV p' a' b' c' d' oa' os'.length oc' code', .int .i64 n] w fun e w' => ∃ o3 c3 x1 x2 x3 x4, e = .returned (dV S.p x1 x2 x3 x4 o3 S.os.length c3 S.c) ∧ S.rs = [x1, x2, x3, x4] ∧ OwnI w' B (.slice o3 S.os.length c3) S.os ∧ Below w.heap.size w w' := by
  subst hS
  unfold settledS
  rcases Bool.eq_false_or_eq_true (regsB [a', b', c', d']) with hr | hr
  · by_cases hn : (60 : Int) < (os'.length : Int)
    · rw [if_pos (.inr hn)]
      refine (settled_full _ _ _ _ _ _ _ _ _ _ _ _ _ _ _ _ _ _ _ _ hr hn).mono ?_
      rintro e w1 ⟨rfl, b1⟩
      exact ⟨_, _, _, _, _, _, rfl, rfl, h1.below b1, b1⟩
    · rw [if_neg (by simp [hr, hn])]
      rcases Bool.eq_false_or_eq_true (belB p' n) with hp | hp
      · rw [if_neg (by simp [hp])]
        refine (settled_ok _ _ _ _ _ _ _ _ _ _ _ _ _ _ _ _ _ _ _ _ hr hn hp).mono ?_
        rintro e w1 ⟨rfl, b1⟩
        exact ⟨_, _, _, _, _, _, rfl, rfl, h2.below b1, b1⟩
      · rw [if_pos hp]
        refine (settled_out _ _ _ _ _ _ _ _ _ _ _ _ _ _ _ _ _ _ _ _ hr hn hp).mono ?_
        rintro e w1 ⟨rfl, b1⟩
        exact ⟨_, _, _, _, _, _, rfl, rfl, h2.below b1, b1⟩
  · rw [if_pos (.inl hr)]
    refine (settled_regs _ _ _ _ _ _ _ _ _ _ _ _ _ _ _ _ _ _ _ _ hr).mono ?_
    rintro e w1 ⟨rfl, b1⟩
    exact ⟨_, _, _, _, _, _, rfl, rfl, h1.below b1, b1⟩

end Go.Proofs.YtkoghgnbolaooaaGreat
