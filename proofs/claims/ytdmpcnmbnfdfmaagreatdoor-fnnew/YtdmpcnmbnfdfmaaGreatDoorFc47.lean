/- Helpers of the drawn laws: big, the bytes that came in, states that are the same, a byte. -/
import Derived.Test.YtdmpcnmbnfdfmaaGreatDoorFc0
import Derived.Test.YtdmpcnmbnfdfmaaGreatDoorFc46
import Derived.Test.YtdmpcnmbnfdfmaaGreatDoorFc27
import Derived.Deep.RegionLaw
import Derived.Laws.IdiomCopy
import Derived.Test.YtdmpcnmbnfdfmaaGreatDoorFc17
import Derived.Test.YtdmpcnmbnfdfmaaGreatDoorFc22
import Derived.Lib.QuietBelow
namespace Go.Proofs.YtdmpcnmbnfdfmaaGreatDoor
set_option maxRecDepth 100000
set_option maxHeartbeats 4000000
open Go.RowKit Go.Deep
theorem Own1.g {w : World} {B T n pc : Nat} {L : Nat → Nat} {H : Nat → Nat → I5} {pa : Option Addr} {vs vw vh : Value} (o : Own1 w B T n L H (.slice pa n pc) vs vw vh) : ∃ A C us, SysG w (nwX pa n pc A L C H vs vw vh us) := by
 obtain ⟨c, up, us, o, -⟩ := o
 refine ⟨fun i => adOf (up i), fun i => cpOf (up i), us, nwX_g o.s o.t o.h (rowS_of o.p) fun i hi => ?_⟩
 obtain ⟨b, cap, eu, hb, hI, -⟩ := atI (o.p.own i hi) (o.p.nn i hi)
 exact ⟨b, by show adOf (up i) = _; rw [eu]; rfl, hb, hI⟩
theorem cloneItems_nil (w : World) :
  Calls Tryz.prog 26 #[.slice none 0 0] w fun e w' => e = .returned (.slice none 0 0) ∧ Below w.heap.size w w' := by
 have he : ∀ wx : World, (binOp .eql 39 (.slice none 0 0) (.slice none 0 0)).run Tryz.prog wx = .ok (.bool true) wx := fun wx => by kernel_rfl
 go_enter Tryz.func26, Tryz.ntmps26
 go_wp2
 go_ret
 exact ⟨rfl, Below.refl _ _⟩
theorem implWayOf_nil (pa : Option Addr) (n pc : Nat) (vs : Value) (wa : Option Addr) (wc : Nat) (vh : Value) (p q : Nat) (w : World) (hn : n ≤ 4) (hp : p < n) (hq : q < n) (hr : RowS w wa (n * n) fun _ => .slice none 0 0) :
  Calls Tryz.prog 10 #[.agg #[.slice pa n pc, vs, .slice wa (n * n) wc, vh], .int .i64 p, .int .i64 q] w fun e w' => e = .returned (.slice none 0 0) ∧ Below w.heap.size w w' := by
 have hmul : p * n + q < n * n := by
  have := Nat.mul_le_mul (show p + 1 ≤ n by omega) (Nat.le_refl n)
  rw [Nat.add_mul, Nat.one_mul] at this
  omega
 obtain ⟨NN, hNN⟩ : ∃ NN, NN = n * n := ⟨_, rfl⟩
 obtain ⟨J, hJ⟩ : ∃ J, J = p * n + q := ⟨_, rfl⟩
 rw [← hNN, ← hJ] at hmul
 rw [← hNN] at hr ⊢
 have h16 : NN ≤ 16 := by rw [hNN]; exact Nat.le_trans (Nat.mul_le_mul hn hn) (by omega)
 obtain ⟨b, off, rfl, hb, hc⟩ : ∃ b off, wa = some ⟨b, off, none⟩ ∧ b < w.heap.size ∧ ∀ i, i < NN → w.cell? ⟨b, off + i, none⟩ = some (.slice none 0 0) := hr.resolve_left (by omega)
 have ck := hc J hmul
 have eJ : (p : Int) * (n : Int) + (q : Int) = (J : Int) := by rw [hJ]; simp
 have em : (0 : Int) ≤ (p : Int) * (n : Int) ∧ (p : Int) * (n : Int) ≤ 16 := by
  have : (q : Int) ≥ 0 := by omega
  have : (J : Int) ≤ 16 := by omega
  have : (0 : Int) ≤ (p : Int) * (n : Int) := Int.mul_nonneg (by omega) (by omega)
  omega
 obtain ⟨em0, em1⟩ := em
 have tA : belB (p : Int) n = true := by simp only [belB, decide_eq_true_eq]; omega
 have tB : belB (q : Int) n = true := by simp only [belB, decide_eq_true_eq]; omega
 have tC : belB (J : Int) NN = true := by simp only [belB, decide_eq_true_eq]; omega
 have nC : ¬ (NN : Int) ≤ (J : Int) := by omega
 have n4 : (n : Int) ≤ 4 := by omega
 have p4 : (p : Int) ≤ 4 := by omega
 have q4 : (q : Int) ≤ 4 := by omega
 clear hc hr hJ hNN
 go_enter Tryz.func10, Tryz.ntmps10
 go_wp2_with fail
 refine (isBelow_any _ _ _).mono ?_
 rintro e w1 ⟨rfl, rfl⟩
 rw [tA]
 go_wp2_with fail
 refine (isBelow_any _ _ _).mono ?_
 rintro e w1 ⟨rfl, rfl⟩
 rw [tB]
 go_wp2_with fail
 refine (isBelow_any _ _ _).mono ?_
 rintro e w1 ⟨rfl, rfl⟩
 rw [tC]
 go_wp2_with fail
 refine (cloneItems_nil _).mono ?_
 rintro e w4 ⟨rfl, b4⟩
 have HF : Hid (Below w.heap.size w w4) := (below_allocL _ _).trans (b4.mono (by simp))
 clear b4
 go_wp2
 go_ret
 exact ⟨rfl, HF.out⟩
def flatE (E : Nat → E3) : Nat → List Value
 | 0 => []
 | n + 1 => flatE E n ++ [.int .i64 (E n).k, .int .i64 (E n).q, .int .i64 (E n).v]
def DrawnE (w : World) (e : Ending) (w' : World) : Prop := ∃ gl n gc ge k ec G E, e = .returned (.tuple #[.slice (some ⟨gl, 0, none⟩) n gc, .slice (some ⟨ge, 0, none⟩) k ec]) ∧ (n ≤ 31 ∧ k ≤ 25 ∧ k ≤ ec) ∧ (gl < w'.heap.size ∧ InsAt w' gl 0 n G) ∧ (ge < w'.heap.size ∧ EvAt w' ge 0 k E) ∧ Below w.heap.size w w'
open Go.ChangeShapes Go.WideShapes Go.ChangeAt Go.Sort
theorem sameInts_same (a0 a1 : Option Addr) (c0 c1 : Nat) (xs : List Int) (w : World) (hlen : xs.length ≤ 1048576) (h0 : Sl w a0 xs) (h1 : Sl w a1 xs) :
  Calls Tryz.prog 24 #[.slice a0 xs.length c0, .slice a1 xs.length c1] w fun e w' => e = .returned (.bool true) ∧ Below w.heap.size w w' := by
 have hl' : (xs.length : Int) ≤ 1048576 := by omega
 have H0 : Hid (Sl w a0 xs) := h0
 have H1 : Hid (Sl w a1 xs) := h1
 clear h0 h1
 go_enter Tryz.func24, Tryz.ntmps24
 go_wp2_with fail
 go_loopw [5] (fun i wr => ∃ k : Nat, k ≤ xs.length ∧ i = .int .i64 k ∧ Below w.heap.size w wr) (fun i _ => xs.length - (intOf i).toNat)
 case atStart => exact ⟨0, Nat.zero_le _, rfl, Below.refl _ _⟩
 case round =>
  obtain ⟨k, hk, rfl, hbw⟩ := hrel
  by_cases hlt : k < xs.length
  ·obtain ⟨b, off, rfl, hbl, ck⟩ := (H0.out.below hbw).at hlt
   obtain ⟨b', off', rfl, hbl', ck'⟩ := (H1.out.below hbw).at hlt
   have hlt' : (k : Int) < (xs.length : Int) := by omega
   go_wp2_with fail
   go_quiet (fail)
   go_wp2
   go_roundw
   case rel => exact ⟨k + 1, by omega, by go_num, below_drewN hbw _⟩
   case measure => simp [intOf]; omega
  ·go_wp2
   go_ret
   exact ⟨rfl, hbw⟩
theorem big_any (a0 : Option Addr) (len cap : Nat) (w : World) :
  Calls Tryz.prog 4 #[.slice a0 len cap] w fun e w' => e = .returned (.bool (decide ((1048576 : Int) < len))) ∧ w' = w := by
 go_enter Tryz.func4, Tryz.ntmps4
 go_wp2
 go_ret
 exact ⟨rfl, rfl⟩
theorem open_bytes {H : Type} {enc : TypeId × Value → H} {w : World} {a0 : Option Addr} {len cap : Nat} {d : DataW H} {p : List MemPlace}
  (h : DataW.Trod enc Tryz.prog w 0 (fun _ => true) true 22 (.slice a0 len cap) d p) : len ≤ maxLen ∧ BytesAt w w.heap.size a0 len := by
 obtain ⟨fuel, hf⟩ := h
 rcases open_ints Tryz.underlying22 Tryz.underlying5 (by kernel_rfl) hf with ⟨hcs, _⟩ | ⟨x, l, c, zs, hcs, _, hl, hm, hz, _, hcell, hwz⟩
 ·simp [Value.cells] at hcs
  obtain ⟨_, rfl, _⟩ := hcs
  exact ⟨Nat.zero_le _, .inl rfl⟩
 ·simp [Value.cells] at hcs
  obtain ⟨rfl, rfl, rfl⟩ := hcs
  refine ⟨Nat.le_trans hl hm, ?_⟩
  by_cases h0 : len = 0
  ·exact .inl h0
  right
  have hz' : zs.length = cap := by simpa using hz
  obtain ⟨b, off, rfl, hc⟩ := ints_at hcell (by omega)
  refine ⟨b, off, rfl, cell_lt (hc 0 (by omega)), fun j hj => ⟨zs.getD j 0, hc j (by omega), ?_⟩⟩
  have hmem : zs.getD j 0 ∈ zs := by
   rw [List.getD_eq_getElem?_getD, List.getElem?_eq_getElem (by omega)]
   exact List.getElem_mem _
  exact bounds_u8 (hwz _ hmem)
theorem sameState_same (p code : Int) (ra oa ra' oa' : Option Addr) (rc oc rc' oc' : Nat) (rs os : List Int) (w : World) (hr : rs.length ≤ 1048576) (ho : os.length ≤ 1048576) (h1 : Sl w ra rs) (h2 : Sl w oa os) (h1' : Sl w ra' rs) (h2' : Sl w oa' os) :
  Calls Tryz.prog 8 #[stV p ra rs.length rc oa os.length oc code, stV p ra' rs.length rc' oa' os.length oc' code] w fun e w' => e = .returned (.bool true) ∧ Below w.heap.size w w' := by
 have H1 : Hid (Sl w ra rs) := h1
 have H2 : Hid (Sl w oa os) := h2
 have H1' : Hid (Sl w ra' rs) := h1'
 have H2' : Hid (Sl w oa' os) := h2'
 clear h1 h2 h1' h2'
 go_enter Tryz.func8, Tryz.ntmps8
 go_wp2_with fail
 refine (sameInts_same ra ra' rc rc' rs _ hr (H1.out.below (by go_grown)) (H1'.out.below (by go_grown))).mono ?_
 rintro e w1 ⟨rfl, b1⟩
 have B1 : Hid (Below w.heap.size w w1) := below_up (by go_grown) b1 (by simp; omega)
 obtain ⟨hc1, hf1⟩ := bcell b1
 have l0 : w.heap.size < w.heap.size + 1 + 1 := by omega
 have l1 : w.heap.size + 1 < w.heap.size + 1 + 1 := by omega
 have k0 : w1.cell? ⟨w.heap.size, 2, none⟩ = some (.slice oa os.length oc) := (hc1 w.heap.size 2 (by simp; omega)).trans ((old_cell _ _ (by simp)).trans (new_cell _ _ _ 2 rfl))
 have k1 : w1.cell? ⟨w.heap.size + 1, 2, none⟩ = some (.slice oa' os.length oc') := (hc1 (w.heap.size + 1) 2 (by simp)).trans (new_cellB _ _ _ 2 (by simp))
 clear b1 hc1 hf1
 go_wp2_with fail
 refine (sameInts_same oa oa' oc oc' os _ ho (H2.out.below B1.out) (H2'.out.below B1.out)).mono ?_
 rintro e w2 ⟨rfl, b2⟩
 have B2 : Hid (Below w.heap.size w w2) := B1.out.trans (b2.mono B1.out.size)
 clear b2
 go_wp2
 go_ret
 exact ⟨rfl, B2.out⟩
end Go.Proofs.YtdmpcnmbnfdfmaaGreatDoor
