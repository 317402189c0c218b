/- New systems: what stands between the regions of SysNew. -/
import Derived.Test.YtcplnkhdclcgfaaGreatDoorGc0
import Derived.Test.YtcplnkhdclcgfaaGreatDoorGc37
import Derived.Test.YtcplnkhdclcgfaaGreatDoorGc15
import Derived.Defers
import Derived.Deep.LoopGhost
import Derived.Deep.Cut
import Derived.Deep.MidRow
import Derived.Laws.EntriesVeiled
import Derived.Test.YtcplnkhdclcgfaaGreatDoorGc33
import Derived.Test.YtcplnkhdclcgfaaGreatDoorGc32
import Derived.Test.YtcplnkhdclcgfaaGreatDoorGc36
import Derived.Test.YtcplnkhdclcgfaaGreatDoorGc35
import Derived.Test.YtcplnkhdclcgfaaGreatDoorGc17
namespace Go.Proofs.YtcplnkhdclcgfaaGreatDoor
set_option maxRecDepth 100000
set_option maxHeartbeats 2000000
open Go.ChangeShapes Go.WideShapes Go.ChangeAt Go.RowKit Go.Deep Go.Sort
theorem Touch.set {P : Nat → Prop} {w w' : World} (h : Touch P w w') {a : Addr} (ha : P a.block) (u : Value) : Touch P w (w'.setCell a u) := h.trans (Touch.of_set w' ha u)
theorem Touch.sets {P : Nat → Prop} {b : Nat} (hb : P b) : ∀ (vs : List Value) (o : Nat) {w w' : World}, Touch P w w' → Touch P w (w'.setCells b o vs)
 | [], _, _, _, h => h
 | v :: r, o, _, _, h => Touch.sets hb r (o + 1) (h.set (a := ⟨b, o, none⟩) hb v)
theorem infoHis : (Tryz.prog.info? 79).map (·.size) = some 21 := by kernel_rfl
theorem rowBack (X Bf Hb : Nat) (w : World) (cs : List Value) (hl : cs.length = 21) (h1 : ∀ v ∈ cs, v.oneCell' = true) (hB : w.rangeAt Bf 0 cs) (hT : w.there X 4 21) (hH : w.cell? ⟨Hb, 0, none⟩ = some (.pointer (some ⟨X, 4, none⟩))) (u : FrameMode) :
  CallsD Tryz.prog 130 #[.pointer (some ⟨Bf, 0, none⟩), .pointer (some ⟨Hb, 0, none⟩)] u w fun e u' w' => u' = u ∧ (e = .returned (.tuple #[]) ∧ Touch (fun b => b = X) w w') := by
 have HB : Hid (w.rangeAt Bf 0 cs) := hB
 have HT : Hid (w.there X 4 cs.toArray.size) := by rw [show cs.toArray.size = 21 by simp [hl]]; exact hT
 have HI : Hid ((Tryz.prog.info? 79).map (·.size) = some cs.length) := by rw [hl]; exact infoHis
 have HO : Hid (cs.toArray.all (·.oneCell') = true) := all_oneCell_toArray h1
 clear hB hT h1 hl
 go_enter_d Tryz.func130, Tryz.ntmps130
 go_wp2_with (first | (refine wpList_load_mid rfl 79 (.tmp 0) rfl Bf 0 rfl cs _ HB.out Tryz.underlying79 rfl HI.out ?_) | (refine wpList_store_mid rfl 79 (.tmp 4) (.tmp 3) rfl X 4 cs.toArray rfl rfl HT.out (by simpa using HI.out) HO.out ?_))
 go_end0
 exact ⟨rfl, Touch.sets (P := fun b => b = X) rfl _ _ (Touch.refl _ _)⟩
def hisL (ha : Option Addr) (hc : Nat) (y : Hs) (d : Nat → Nat) : List Value :=
 [.slice ha y.n hc, .int .i64 (d 0), .int .i64 (d 1), .int .i64 (d 2), .int .i64 (d 3),
  .int .i64 (y.opn d 0 0), .int .i64 (y.opn d 0 1), .int .i64 (y.opn d 0 2), .int .i64 (y.opn d 0 3), .int .i64 (y.opn d 1 0), .int .i64 (y.opn d 1 1), .int .i64 (y.opn d 1 2), .int .i64 (y.opn d 1 3),
  .int .i64 (y.opn d 2 0), .int .i64 (y.opn d 2 1), .int .i64 (y.opn d 2 2), .int .i64 (y.opn d 2 3), .int .i64 (y.opn d 3 0), .int .i64 (y.opn d 3 1), .int .i64 (y.opn d 3 2), .int .i64 (y.opn d 3 3)]
theorem HisP.range {w : World} {X : Nat} {ha : Option Addr} {hc : Nat} {y : Hs} {d : Nat → Nat} (h : HisP w X ha hc y d) : w.rangeAt X 4 (hisL ha hc y d) := by
 intro j v hj
 have hl : j < 21 := by
  have := (List.getElem?_eq_some_iff.1 hj).1
  simpa [hisL] using this
 match j, hl, hj with
 | 0, _, hj => rw [← hj]; exact h.c4
 | 1, _, hj => rw [← hj]; exact h.pt 0 (by omega)
 | 2, _, hj => rw [← hj]; exact h.pt 1 (by omega)
 | 3, _, hj => rw [← hj]; exact h.pt 2 (by omega)
 | 4, _, hj => rw [← hj]; exact h.pt 3 (by omega)
 | 5, _, hj => rw [← hj]; exact h.op 0 0 (by omega) (by omega)
 | 6, _, hj => rw [← hj]; exact h.op 0 1 (by omega) (by omega)
 | 7, _, hj => rw [← hj]; exact h.op 0 2 (by omega) (by omega)
 | 8, _, hj => rw [← hj]; exact h.op 0 3 (by omega) (by omega)
 | 9, _, hj => rw [← hj]; exact h.op 1 0 (by omega) (by omega)
 | 10, _, hj => rw [← hj]; exact h.op 1 1 (by omega) (by omega)
 | 11, _, hj => rw [← hj]; exact h.op 1 2 (by omega) (by omega)
 | 12, _, hj => rw [← hj]; exact h.op 1 3 (by omega) (by omega)
 | 13, _, hj => rw [← hj]; exact h.op 2 0 (by omega) (by omega)
 | 14, _, hj => rw [← hj]; exact h.op 2 1 (by omega) (by omega)
 | 15, _, hj => rw [← hj]; exact h.op 2 2 (by omega) (by omega)
 | 16, _, hj => rw [← hj]; exact h.op 2 3 (by omega) (by omega)
 | 17, _, hj => rw [← hj]; exact h.op 3 0 (by omega) (by omega)
 | 18, _, hj => rw [← hj]; exact h.op 3 1 (by omega) (by omega)
 | 19, _, hj => rw [← hj]; exact h.op 3 2 (by omega) (by omega)
 | 20, _, hj => rw [← hj]; exact h.op 3 3 (by omega) (by omega)
theorem hisL_one {ha : Option Addr} {hc : Nat} {y : Hs} {d : Nat → Nat} : ∀ v ∈ hisL ha hc y d, v.oneCell' = true := by
 intro v hv
 simp only [hisL, List.mem_cons, List.not_mem_nil, or_false] at hv
 rcases hv with rfl | rfl | rfl | rfl | rfl | rfl | rfl | rfl | rfl | rfl | rfl | rfl | rfl | rfl | rfl | rfl | rfl | rfl | rfl | rfl | rfl <;> rfl
theorem HisP.thereX {w : World} {X : Nat} {ha : Option Addr} {hc : Nat} {y : Hs} {d : Nat → Nat} (h : HisP w X ha hc y d) : w.there X 4 21 := fun j hj => ⟨h.range.isSome j (by simpa [hisL] using hj), h.fr _⟩
theorem sumL_same {d e : Nat → Nat} : ∀ {n : Nat}, (∀ i, i < n → d i = e i) → sumL d n = sumL e n
 | 0, _ => rfl
 | n + 1, h => by
  show sumL d n + d n = sumL e n + e n
  rw [sumL_same fun i hi => h i (by omega), h n (by omega)]
theorem sumL_zero : ∀ n, sumL (fun _ => 0) n = 0
 | 0 => rfl
 | n + 1 => sumL_zero n
theorem sumL_up {d : Nat → Nat} {k : Nat} : ∀ {n : Nat}, k < n → sumL (up d k) n = sumL d n + 1
 | 0, h => by omega
 | n + 1, h => by
  show sumL (up d k) n + up d k n = sumL d n + d n + 1
  by_cases e : k = n
  ·subst e
   rw [up_same]
   have : sumL (up d k) k = sumL d k := sumL_same fun i hi => up_other (by omega)
   omega
  ·rw [sumL_up (by omega), up_other (by omega)]
   omega
theorem sumL_le {d l : Nat → Nat} (h : ∀ i, d i ≤ l i) : ∀ n, sumL d n ≤ sumL l n
 | 0 => Nat.le_refl _
 | n + 1 => by
  have := sumL_le h n
  have := h n
  show sumL d n + d n ≤ sumL l n + l n
  omega
structure Rw (w0 W wr : World) (X Bf Hb : Nat) (ha : Option Addr) (hc : Nat) (y : Hs) (cs : List Value) (d : Nat → Nat) : Prop where
 pu : y.Put d
 hp : HisP wr X ha hc y d
 be : Below w0.heap.size w0 wr
 hb : wr.cell? ⟨Hb, 0, none⟩ = some (.pointer (some ⟨X, 4, none⟩))
 bf : wr.rangeAt Bf 0 cs
theorem rangeAt_touch {P : Nat → Prop} {w w' : World} {b o : Nat} {cs : List Value} (h : w.rangeAt b o cs) (t : Touch P w w') (hb : ¬ P b) : w'.rangeAt b o cs := fun j v hv => by
 have := h j v hv
 rw [t.cell (World.block_lt_of_cell? w _ this) hb]
 exact this
theorem Rw.touch {w0 W wr w' : World} {X Bf Hb : Nat} {ha : Option Addr} {hc : Nat} {y : Hs} {cs : List Value} {d d' : Nat → Nat} (h : Rw w0 W wr X Bf Hb ha hc y cs d) (t : Touch (fun b => b = X) wr w') (hX : w0.heap.size ≤ X) (hB : Bf ≠ X) (hH : Hb ≠ X) (pu : y.Put d') (hp : HisP w' X ha hc y d') : Rw w0 W w' X Bf Hb ha hc y cs d' :=
 ⟨pu, hp, h.be.trans (t.below h.be.size fun b e => by omega), (t.cell (World.block_lt_of_cell? wr _ h.hb) hH 0).trans h.hb, rangeAt_touch h.bf t hB⟩
theorem canRow_any (X : Nat) (ha : Option Addr) (hc : Nat) (hA : Nat → Option Addr) (hC : Nat → Nat) (y : Hs) (w0 w : World) (hE : HisE w0 ha hA hC y) (hb : Below w0.heap.size w0 w) (hX : w0.heap.size ≤ X) (hP : HisP w X ha hc y (fun _ => 0)) (h4 : y.n ≤ 4) (hp : y.Peers) (hl : ∀ i, i < y.n → y.l i ≤ 200) :
  Calls Tryz.prog 54 #[.pointer (some ⟨X, 4, none⟩)] w fun e w' => e = .returned (.bool (qB y.Row)) ∧ Below w0.heap.size w0 w' := by
 have HE : Hid (HisE w0 ha hA hC y) := hE
 have HH : Hid (y.Peers ∧ (∀ i, i < y.n → y.l i ≤ 200) ∧ w0.heap.size ≤ X) := ⟨hp, hl, hX⟩
 have zX := hP.lt
 obtain ⟨cs, hcs, hlen, hone⟩ : ∃ cs, w.rangeAt X 4 cs ∧ cs.length = 21 ∧ ∀ v ∈ cs, v.oneCell' = true := ⟨_, hP.range, rfl, hisL_one⟩
 have hsz : cs.toArray.size = 21 := by simpa using hlen
 have HL21 : Hid (cs.length = 21 ∧ ∀ v ∈ cs, v.oneCell' = true) := ⟨hlen, hone⟩
 have HI : Hid ((Tryz.prog.info? 79).map (·.size) = some cs.length) := by rw [hlen]; exact infoHis
 have HR : Hid ((w.alloc (.cells #[.pointer (some ⟨X, 4, none⟩)] 150)).rangeAt X 4 cs) := World.rangeAt_alloc hcs _
 have HO : Hid (cs.toArray.all (·.oneCell') = true) := all_oneCell_toArray hone
 have hmf : ∀ (fn : Fn) (first cap : Array Value) (w : World), (Instr.makeFunc fn first cap).run Tryz.prog w = .ok (.func fn first cap) w := fun _ _ _ _ => rfl
 have HT : Hid (((w.alloc (.cells #[.pointer (some ⟨X, 4, none⟩)] 150)).alloc (zQ3)).there (w.heap.size + 1) 0 cs.toArray.size) := fun j hj => by
  have hj' : j < 21 := by rw [← hsz]; exact hj
  refine ⟨?_, new_frozen _ _ _ _ (by simp)⟩
  rw [Nat.zero_add, new_cell _ _ _ j (by simp), Array.getElem?_eq_getElem (by simpa using hj')]
  rfl
 have tw : Touch (fun b => b = w.heap.size + 1) w (((w.alloc (.cells #[.pointer (some ⟨X, 4, none⟩)] 150)).alloc (zQ3)).setCells (w.heap.size + 1) 0 cs) := Touch.sets (P := fun b => b = w.heap.size + 1) rfl _ _ (Touch.of_below ((below_alloc _ _).trans ((below_alloc _ _).mono (by simp))))
 have HRw : Hid (Rw w0 w (((w.alloc (.cells #[.pointer (some ⟨X, 4, none⟩)] 150)).alloc (zQ3)).setCells (w.heap.size + 1) 0 cs) X (w.heap.size + 1) w.heap.size ha hc y cs (fun _ => 0)) := by
  refine ⟨.start, hP.blk (tw.block X zX (by omega)), hb.trans (tw.below hb.size fun b e => by have := hb.size; omega), ?_, World.rangeAt_setCells_same _ _ _ _ (by simpa using HT.out)⟩
  rw [World.cell?_setCells_out _ _ _ _ _ (fun e => absurd e (by simp)), World.cell?_alloc_lt _ _ _ (by simp)]
  exact new_cell _ _ _ 0 rfl
 have HX : Hid (X < w.heap.size) := zX
 clear hE hp hl hX tw hb hP zX hlen hsz hcs hone
 go_enter_defers Tryz.func54, Tryz.ntmps54
 have h0 := HRw.out.hb
 go_wp2_with (first | (refine wpList_load_mid rfl 79 (.tmp 6) rfl X 4 rfl cs _ HR.out Tryz.underlying79 rfl HI.out ?_) | (refine wpList_store_mid rfl 79 (.tmp 3) (.tmp 7) rfl (w.heap.size + 1) 0 cs.toArray rfl rfl HT.out (by simpa using HI.out) HO.out ?_))
 clear HR HT HI HO
 generalize ((w.alloc (.cells #[.pointer (some ⟨X, 4, none⟩)] 150)).alloc (zQ3)).setCells (w.heap.size + 1) 0 cs = W1 at *
 have nX : Hid (w.heap.size + 1 ≠ X ∧ w.heap.size ≠ X) := by
  have := HX.out
  exact ⟨by omega, by omega⟩
 refine (next_any X ha hc hA hC y (fun _ => 0) W1 (HE.out.below HRw.out.be) HRw.out.hp h4 HH.out.1 HH.out.2.1 HRw.out.pu.le).mono ?_
 rintro e w1 ⟨q1, hor⟩
 have HNx : Hid (Rw w0 w w1 X (w.heap.size + 1) w.heap.size ha hc y cs (fun _ => 0)) := HRw.out.touch (Touch.of_below q1) HH.out.2.2 nX.out.1 nX.out.2 HRw.out.pu (HRw.out.hp.below q1)
 obtain ⟨z, rfl, HOr⟩ : ∃ z : Int, e = .returned (.int .i64 z) ∧ Hid ((∃ k, k < y.n ∧ y.Can (fun _ => 0) k ∧ z = (k : Nat)) ∨ (z = -1 ∧ ∀ p, p < y.n → ¬ y.Can (fun _ => 0) p)) := by
  rcases hor with ⟨k, hk, hcan, rfl⟩ | ⟨rfl, hn⟩
  ·exact ⟨_, rfl, .inl ⟨k, hk, hcan, rfl⟩⟩
  ·exact ⟨_, rfl, .inr ⟨rfl, hn⟩⟩
 clear hor q1 h0 HRw
 go_wp2_with fail
 go_loopg [4] (sumL y.l y.n) (fun k p wr => ∃ d z, k = sumL y.l y.n - sumL d y.n ∧ p = .int .i64 z ∧ Rw w0 w wr X (w.heap.size + 1) w.heap.size ha hc y cs d ∧ Hid ((∃ k, k < y.n ∧ y.Can d k ∧ z = (k : Nat)) ∨ (z = -1 ∧ ∀ p, p < y.n → ¬ y.Can d p)))
 case atStart => exact ⟨_, z, by simp [sumL_zero], rfl, HNx.out, HOr.out⟩
 case round =>
  clear HNx HOr
  obtain ⟨d, zz, hgk, rfl, rw0, HOr⟩ := hrel
  have HRr : Hid (Rw w0 w wr X (w.heap.size + 1) w.heap.size ha hc y cs d) := rw0
  have h1 := rw0.hb
  have HG : Hid (gk = sumL y.l y.n - sumL d y.n) := hgk
  clear rw0 hgk
  rcases HOr.out with ⟨k, hk, hcan, rfl⟩ | ⟨rfl, hst⟩
  ·have HCn : Hid (y.Can d k) := hcan
   have hz : ¬ (k : Int) = -1 := by omega
   have hz' : ((k : Int) == -1) = false := by simp
   clear HOr hcan
   go_wp2_with fail
   refine (putOne_any X ha hc hA hC y d k wr (HE.out.below HRr.out.be) HRr.out.hp h4 hk HH.out.1 HH.out.2.1 HRr.out.pu.le HCn.out.1).mono ?_
   rintro e w1 ⟨rfl, hp1, t1⟩
   have hpu : y.Put (up d k) := .next HRr.out.pu hk HCn.out
   have HN : Hid (Rw w0 w w1 X (w.heap.size + 1) w.heap.size ha hc y cs (up d k)) := HRr.out.touch t1 HH.out.2.2 nX.out.1 nX.out.2 hpu hp1
   have HM : Hid (sumL y.l y.n - sumL (up d k) y.n < gk) := by
    have h2 := sumL_up (d := d) hk
    have h3 := sumL_le hpu.le y.n
    have h4 := HG.out
    show sumL y.l y.n - sumL (up d k) y.n < gk
    omega
   clear hp1 t1 hpu h1 HRr HG hz hz'
   generalize up d k = d2 at *
   have h1 := HN.out.hb
   go_wp2_with fail
   refine (next_any X ha hc hA hC y d2 w1 (HE.out.below HN.out.be) HN.out.hp h4 HH.out.1 HH.out.2.1 HN.out.pu.le).mono ?_
   rintro e w2 ⟨q2, hor⟩
   have HN2 : Hid (Rw w0 w w2 X (w.heap.size + 1) w.heap.size ha hc y cs d2) := HN.out.touch (Touch.of_below q2) HH.out.2.2 nX.out.1 nX.out.2 HN.out.pu (HN.out.hp.below q2)
   obtain ⟨z, rfl, HOr⟩ : ∃ z : Int, e = .returned (.int .i64 z) ∧ Hid ((∃ k, k < y.n ∧ y.Can d2 k ∧ z = (k : Nat)) ∨ (z = -1 ∧ ∀ p, p < y.n → ¬ y.Can d2 p)) := by
    rcases hor with ⟨k, hk, hcan, rfl⟩ | ⟨rfl, hn⟩
    ·exact ⟨_, rfl, .inl ⟨k, hk, hcan, rfl⟩⟩
    ·exact ⟨_, rfl, .inr ⟨rfl, hn⟩⟩
   clear hor q2 h1 HN
   go_wp2
   go_roundg (sumL y.l y.n - sumL d2 y.n)
   case measure => exact HM.out
   case rel => exact ⟨d2, z, rfl, rfl, HN2.out, HOr.out⟩
  ·have HRow : Hid (qB (y.All d) = qB y.Row) := by
    show qB (y.All d) = qB y.Row
    have hi := Hs.row_iff HRr.out.pu HH.out.1 hst
    by_cases hr : y.Row
    ·rw [qB_true hr, qB_true (hi.1 hr)]
    ·rw [qB_false hr, qB_false (fun h => hr (hi.2 h))]
   have HN : Hid (Rw w0 w wr X (w.heap.size + 1) w.heap.size ha hc y cs d) := HRr.out
   clear hst HG HOr HRr
   go_wp2_with fail
   refine (allPut_any X ha hc hA hC y d wr (HE.out.below HN.out.be) HN.out.hp h4 HH.out.2.1 HN.out.pu.le).mono ?_
   rintro e w2 ⟨rfl, b2⟩
   rw [HRow.out]
   have B2 : Hid (Below wr.heap.size wr w2) := b2
   clear b2 h1
   have HB2 : Hid (Below w0.heap.size w0 w2 ∧ w2.rangeAt (w.heap.size + 1) 0 cs ∧ w2.there X 4 21 ∧ w2.cell? ⟨w.heap.size, 0, none⟩ = some (.pointer (some ⟨X, 4, none⟩))) :=
    ⟨HN.out.be.trans (B2.out.mono HN.out.be.size), rangeAt_touch (P := fun _ => False) HN.out.bf (Touch.of_below B2.out) (fun h => h), (HN.out.hp.below B2.out).thereX, (B2.out.cell (p := ⟨w.heap.size, 0, none⟩) (World.block_lt_of_cell? wr _ HN.out.hb)).trans HN.out.hb⟩
   go_wp2
   refine leaves_cons (f := 130) (args := #[.pointer (some ⟨w.heap.size + 1, 0, none⟩), .pointer (some ⟨w.heap.size, 0, none⟩)]) (by simp) (by simp [go_sem]) ?_
   refine (rowBack X (w.heap.size + 1) w.heap.size w2 cs HL21.out.1 HL21.out.2 HB2.out.2.1 HB2.out.2.2.1 HB2.out.2.2.2 .returning).mono ?_
   rintro e u' w3 ⟨rfl, rfl, t3⟩
   exact ⟨_, results_tmp rfl _ _ _, rfl, HB2.out.1.trans (t3.below HB2.out.1.size fun b e => by have := HH.out.2.2; omega)⟩
section
variable {e : TypeId} {sz : Nat} {E : TypeId} {w : World} {P : Nat → Prop} {v : Value} {n : Nat} {u : Nat → Value} {L : Nat → Nat} {c : Nat → List Value}
theorem LL.remark (o : LL true e sz E w P v n u L c) {i : Nat} (hi : i < n) {w1 : World} {c' : List Value} (hu : w1.ownsRow 0 e sz (u i) (L i) c') (g : ∀ k, k < w.heap.size → (u i).ownBlock ≠ some k → w1.heap[k]? = w.heap[k]?) : LL true e sz E w1 P v n u L (fun j => if j = i then c' else c j) := by
 refine ⟨ownsRow_blkL o.row fun k hk => g k (o.row.lt k hk).2 fun e => o.ra i hi k e hk, fun j hj => ?_, o.rb, o.ob, o.ra, o.oa, o.nn⟩
 by_cases ej : j = i
 ·subst ej
  simp only [if_true]
  exact hu
 ·simp only [if_neg ej]
  exact ownsRow_blkL (o.own j hj) fun k hk => g k ((o.own j hj).lt k hk).2 fun e => o.oa j i hj hi ej k hk e
theorem LL.cast (o : LL true e sz E w P v n u L c) {c' : Nat → List Value} (h : ∀ i, i < n → c i = c' i) : LL true e sz E w P v n u L c' :=
 ⟨o.row, fun i hi => by rw [← h i hi]; exact o.own i hi, o.rb, o.ob, o.ra, o.oa, o.nn⟩
end
theorem markInsSS_own (v : Value) (P : Nat → Prop) (n : Nat) (u : Nat → Value) (L : Nat → Nat) (H : Nat → Nat → I5) (k : Int) (w : World) (hn : n ≤ 1048576) (hl : sumL L n ≤ 1048576) (k0 : 0 ≤ k) (k1 : k ≤ 50000000) (o : LI true w P v n u L H) :
  Calls Tryz.prog 75 #[v, .int .i64 k] w fun e w' => e = .returned (.int .i64 (k + 5 * (sumL L n : Nat))) ∧ LI true w' P v n u L (fun i => mkI (k + 5 * (sumL L i : Nat))) ∧ Touch P w w' := by
 have hl' : (n : Int) ≤ 1048576 := by omega
 obtain ⟨a1, c1, rfl⟩ := ownsRow_slice o.row
 have O : Hid (LI true w P (.slice a1 n c1) n u L H) := o
 have HL : Hid (sumL L n ≤ 1048576) := hl
 clear o hl
 go_enter Tryz.func75, Tryz.ntmps75
 go_wp2_with fail
 go_loopw [1, 5] (fun q i wr => ∃ j : Nat, j ≤ n ∧ i = .int .i64 j ∧ q = .int .i64 (k + 5 * (sumL L j : Nat)) ∧ Hid (LL true 99 5 102 wr P (.slice a1 n c1) n u L (fun t => fI (if t < j then mkI (k + 5 * (sumL L t : Nat)) else H t) (L t)) ∧ Touch P w wr)) (fun _ i _ => n - (intOf i).toNat)
 case atStart => exact ⟨0, Nat.zero_le _, rfl, by simp [sumL], O.out.cast fun i _ => by rw [if_neg (by omega)], Touch.refl _ _⟩
 case round =>
  obtain ⟨j, hj, rfl, rfl, HT⟩ := hrel
  by_cases hlt : j < n
  ·have hlt' : (j : Int) < (n : Int) := by omega
   obtain ⟨g1, m1, e1, -, -, ck, -⟩ := HT.out.1.cell hlt
   obtain rfl := slice_form e1
   have how := HT.out.1.own j hlt
   rw [if_neg (by omega)] at how
   obtain ⟨b, m, f1, lb, -, -⟩ := atI how (HT.out.1.nn (nzT _) j hlt)
   rw [f1] at ck how
   have OW : Hid (wr.ownsRow 0 99 5 (.slice (some ⟨b, 0, none⟩) (L j) m) (L j) (fI (H j) (L j))) := how
   have HU : Hid (u j = .slice (some ⟨b, 0, none⟩) (L j) m) := f1
   have hsl := sumL_at L hlt
   have hS := HL.out
   have e1' : k + 5 * (sumL L j : Nat) + 5 * (L j : Int) = k + 5 * (sumL L (j + 1) : Nat) := by simp only [sumL]; omega
   have HE : Hid (k + 5 * (sumL L j : Nat) + 5 * (L j : Int) = k + 5 * (sumL L (j + 1) : Nat)) := e1'
   have e2 : 0 ≤ k + 5 * (sumL L j : Nat) := by omega
   have e3 : k + 5 * (sumL L j : Nat) ≤ 100000000 := by omega
   have e4 : L j ≤ 1048576 := by omega
   clear e1' hS hsl how f1 e1
   go_wp2_with fail
   refine (markInsS_own b (L j) m 0 (H j) _ wr e4 e2 e3 OW.out).mono ?_
   rintro e w1 ⟨rfl, g1', o1⟩
   rw [HE.out]
   have HT1 : Hid (LL true 99 5 102 w1 P (.slice (some ⟨g1, 0, none⟩) n c1) n u L (fun t => fI (if t < j + 1 then mkI (k + 5 * (sumL L t : Nat)) else H t) (L t)) ∧ Touch P w w1) := by
    refine ⟨(HT.out.1.remark hlt (c' := fI (mkI (k + 5 * (sumL L j : Nat))) (L j)) (by rw [HU.out]; exact o1) fun q hq hne => g1'.block q hq fun e => hne (by rw [HU.out, e]; rfl)).cast fun t ht => ?_, HT.out.2.trans (Touch.of_grown g1' fun q e => HT.out.1.ob j hlt q (by rw [HU.out, ← e]; rfl))⟩
    by_cases et : t = j
    ·rw [if_pos et, if_pos (by omega), et]
    ·rw [if_neg et]
     by_cases e2 : t < j
     ·rw [if_pos e2, if_pos (by omega)]
     ·rw [if_neg e2, if_neg (by omega)]
   clear HT e2 e3 e4 g1' o1 ck
   go_wp2
   go_roundw
   case rel => exact ⟨j + 1, by omega, by go_num, rfl, HT1.out⟩
   case measure => simp [intOf]; omega
  ·have hkl : j = n := by omega
   subst hkl
   have HT1 : Hid (LI true wr P (.slice a1 j c1) j u L (fun i => mkI (k + 5 * (sumL L i : Nat))) ∧ Touch P w wr) := ⟨HT.out.1.cast fun t ht => by rw [if_pos ht], HT.out.2⟩
   clear HT
   go_wp2
   go_ret
   exact ⟨rfl, HT1.out⟩
theorem heldInsSS_own (v : Value) (P : Nat → Prop) (n : Nat) (u : Nat → Value) (L : Nat → Nat) (k : Int) (w : World) (hn : n ≤ 1048576) (hl : sumL L n ≤ 1048576) (k0 : 0 ≤ k) (k1 : k ≤ 50000000) (o : LI true w P v n u L (fun i => mkI (k + 5 * (sumL L i : Nat)))) :
  Calls Tryz.prog 79 #[v, .int .i64 k] w fun e w' => e = .returned (.int .i64 (k + 5 * (sumL L n : Nat))) ∧ Below w.heap.size w w' := by
 have hl' : (n : Int) ≤ 1048576 := by omega
 obtain ⟨a1, c1, rfl⟩ := ownsRow_slice o.row
 have O : Hid (LI true w P (.slice a1 n c1) n u L (fun i => mkI (k + 5 * (sumL L i : Nat)))) := o
 have HL : Hid (sumL L n ≤ 1048576) := hl
 clear o hl
 go_enter Tryz.func79, Tryz.ntmps79
 go_wp2_with fail
 go_loopw [1, 5] (fun q i wr => ∃ j : Nat, j ≤ n ∧ i = .int .i64 j ∧ q = .int .i64 (k + 5 * (sumL L j : Nat)) ∧ Below w.heap.size w wr) (fun _ i _ => n - (intOf i).toNat)
 case atStart => exact ⟨0, Nat.zero_le _, rfl, by simp [sumL], Below.refl _ _⟩
 case round =>
  obtain ⟨j, hj, rfl, rfl, hbw⟩ := hrel
  by_cases hlt : j < n
  ·have hlt' : (j : Int) < (n : Int) := by omega
   have Q := O.out.below hbw
   obtain ⟨g1, m1, e1, -, -, ck, -⟩ := Q.cell hlt
   obtain rfl := slice_form e1
   obtain ⟨b, m, f1, lb, it, -⟩ := atI (Q.own j hlt) (Q.nn (nzT _) j hlt)
   rw [f1] at ck
   have IT : Hid (InsAt wr b 0 (L j) (mkI (k + 5 * (sumL L j : Nat))) ∧ b < wr.heap.size) := ⟨it, lb⟩
   have hsl := sumL_at L hlt
   have hS := HL.out
   have e1' : k + 5 * (sumL L j : Nat) + 5 * (L j : Int) = k + 5 * (sumL L (j + 1) : Nat) := by simp only [sumL]; omega
   have HE : Hid (k + 5 * (sumL L j : Nat) + 5 * (L j : Int) = k + 5 * (sumL L (j + 1) : Nat)) := e1'
   have e2 : 0 ≤ k + 5 * (sumL L j : Nat) := by omega
   have e3 : k + 5 * (sumL L j : Nat) ≤ 100000000 := by omega
   have e4 : L j ≤ 1048576 := by omega
   have e5 : ¬ (k + 5 * (sumL L (j + 1) : Nat) < 0) := by omega
   clear e1' hS hsl Q f1 it lb e1
   go_wp2_with fail
   refine (heldInsS_own b (L j) m _ wr e4 e2 e3 IT.out.2 IT.out.1).mono ?_
   rintro e w1 ⟨rfl, b1⟩
   rw [HE.out]
   have B1 : Hid (Below w.heap.size w w1) := hbw.trans (b1.mono hbw.size)
   clear b1 e2 e3 e4 ck hbw
   go_wp2
   go_roundw
   case rel => exact ⟨j + 1, by omega, by go_num, rfl, B1.out⟩
   case measure => simp [intOf]; omega
  ·have hkl : j = n := by omega
   subst hkl
   go_wp2
   go_ret
   exact ⟨rfl, hbw⟩
theorem markItemSS_own (v : Value) (P : Nat → Prop) (n : Nat) (u : Nat → Value) (L : Nat → Nat) (H : Nat → Nat → I2) (k : Int) (w : World) (hn : n ≤ 1048576) (hl : sumL L n ≤ 1048576) (k0 : 0 ≤ k) (k1 : k ≤ 50000000) (o : LT true w P v n u L H) :
  Calls Tryz.prog 77 #[v, .int .i64 k] w fun e w' => e = .returned (.int .i64 (k + 2 * (sumL L n : Nat))) ∧ LT true w' P v n u L (fun i => mkT (k + 2 * (sumL L i : Nat))) ∧ Touch P w w' := by
 have hl' : (n : Int) ≤ 1048576 := by omega
 obtain ⟨a1, c1, rfl⟩ := ownsRow_slice o.row
 have O : Hid (LT true w P (.slice a1 n c1) n u L H) := o
 have HL : Hid (sumL L n ≤ 1048576) := hl
 clear o hl
 go_enter Tryz.func77, Tryz.ntmps77
 go_wp2_with fail
 go_loopw [1, 5] (fun q i wr => ∃ j : Nat, j ≤ n ∧ i = .int .i64 j ∧ q = .int .i64 (k + 2 * (sumL L j : Nat)) ∧ Hid (LL true 126 2 124 wr P (.slice a1 n c1) n u L (fun t => fT (if t < j then mkT (k + 2 * (sumL L t : Nat)) else H t) (L t)) ∧ Touch P w wr)) (fun _ i _ => n - (intOf i).toNat)
 case atStart => exact ⟨0, Nat.zero_le _, rfl, by simp [sumL], O.out.cast fun i _ => by rw [if_neg (by omega)], Touch.refl _ _⟩
 case round =>
  obtain ⟨j, hj, rfl, rfl, HT⟩ := hrel
  by_cases hlt : j < n
  ·have hlt' : (j : Int) < (n : Int) := by omega
   obtain ⟨g1, m1, e1, -, -, ck, -⟩ := HT.out.1.cell hlt
   obtain rfl := slice_form e1
   have how := HT.out.1.own j hlt
   rw [if_neg (by omega)] at how
   obtain ⟨b, m, f1, lb, -, -⟩ := atT how (HT.out.1.nn (nzT _) j hlt)
   rw [f1] at ck how
   have OW : Hid (wr.ownsRow 0 126 2 (.slice (some ⟨b, 0, none⟩) (L j) m) (L j) (fT (H j) (L j))) := how
   have HU : Hid (u j = .slice (some ⟨b, 0, none⟩) (L j) m) := f1
   have hsl := sumL_at L hlt
   have hS := HL.out
   have e1' : k + 2 * (sumL L j : Nat) + 2 * (L j : Int) = k + 2 * (sumL L (j + 1) : Nat) := by simp only [sumL]; omega
   have HE : Hid (k + 2 * (sumL L j : Nat) + 2 * (L j : Int) = k + 2 * (sumL L (j + 1) : Nat)) := e1'
   have e2 : 0 ≤ k + 2 * (sumL L j : Nat) := by omega
   have e3 : k + 2 * (sumL L j : Nat) ≤ 100000000 := by omega
   have e4 : L j ≤ 1048576 := by omega
   clear e1' hS hsl how f1 e1
   go_wp2_with fail
   refine (markItemS_own b (L j) m 0 (H j) _ wr e4 e2 e3 OW.out).mono ?_
   rintro e w1 ⟨rfl, g1', o1⟩
   rw [HE.out]
   have HT1 : Hid (LL true 126 2 124 w1 P (.slice (some ⟨g1, 0, none⟩) n c1) n u L (fun t => fT (if t < j + 1 then mkT (k + 2 * (sumL L t : Nat)) else H t) (L t)) ∧ Touch P w w1) := by
    refine ⟨(HT.out.1.remark hlt (c' := fT (mkT (k + 2 * (sumL L j : Nat))) (L j)) (by rw [HU.out]; exact o1) fun q hq hne => g1'.block q hq fun e => hne (by rw [HU.out, e]; rfl)).cast fun t ht => ?_, HT.out.2.trans (Touch.of_grown g1' fun q e => HT.out.1.ob j hlt q (by rw [HU.out, ← e]; rfl))⟩
    by_cases et : t = j
    ·rw [if_pos et, if_pos (by omega), et]
    ·rw [if_neg et]
     by_cases e2 : t < j
     ·rw [if_pos e2, if_pos (by omega)]
     ·rw [if_neg e2, if_neg (by omega)]
   clear HT e2 e3 e4 g1' o1 ck
   go_wp2
   go_roundw
   case rel => exact ⟨j + 1, by omega, by go_num, rfl, HT1.out⟩
   case measure => simp [intOf]; omega
  ·have hkl : j = n := by omega
   subst hkl
   have HT1 : Hid (LT true wr P (.slice a1 j c1) j u L (fun i => mkT (k + 2 * (sumL L i : Nat))) ∧ Touch P w wr) := ⟨HT.out.1.cast fun t ht => by rw [if_pos ht], HT.out.2⟩
   clear HT
   go_wp2
   go_ret
   exact ⟨rfl, HT1.out⟩
theorem heldItemSS_own (v : Value) (P : Nat → Prop) (n : Nat) (u : Nat → Value) (L : Nat → Nat) (k : Int) (w : World) (hn : n ≤ 1048576) (hl : sumL L n ≤ 1048576) (k0 : 0 ≤ k) (k1 : k ≤ 50000000) (o : LT true w P v n u L (fun i => mkT (k + 2 * (sumL L i : Nat)))) :
  Calls Tryz.prog 81 #[v, .int .i64 k] w fun e w' => e = .returned (.int .i64 (k + 2 * (sumL L n : Nat))) ∧ Below w.heap.size w w' := by
 have hl' : (n : Int) ≤ 1048576 := by omega
 obtain ⟨a1, c1, rfl⟩ := ownsRow_slice o.row
 have O : Hid (LT true w P (.slice a1 n c1) n u L (fun i => mkT (k + 2 * (sumL L i : Nat)))) := o
 have HL : Hid (sumL L n ≤ 1048576) := hl
 clear o hl
 go_enter Tryz.func81, Tryz.ntmps81
 go_wp2_with fail
 go_loopw [1, 5] (fun q i wr => ∃ j : Nat, j ≤ n ∧ i = .int .i64 j ∧ q = .int .i64 (k + 2 * (sumL L j : Nat)) ∧ Below w.heap.size w wr) (fun _ i _ => n - (intOf i).toNat)
 case atStart => exact ⟨0, Nat.zero_le _, rfl, by simp [sumL], Below.refl _ _⟩
 case round =>
  obtain ⟨j, hj, rfl, rfl, hbw⟩ := hrel
  by_cases hlt : j < n
  ·have hlt' : (j : Int) < (n : Int) := by omega
   have Q := O.out.below hbw
   obtain ⟨g1, m1, e1, -, -, ck, -⟩ := Q.cell hlt
   obtain rfl := slice_form e1
   obtain ⟨b, m, f1, lb, it, -⟩ := atT (Q.own j hlt) (Q.nn (nzT _) j hlt)
   rw [f1] at ck
   have IT : Hid (ItAt wr b 0 (L j) (mkT (k + 2 * (sumL L j : Nat))) ∧ b < wr.heap.size) := ⟨it, lb⟩
   have hsl := sumL_at L hlt
   have hS := HL.out
   have e1' : k + 2 * (sumL L j : Nat) + 2 * (L j : Int) = k + 2 * (sumL L (j + 1) : Nat) := by simp only [sumL]; omega
   have HE : Hid (k + 2 * (sumL L j : Nat) + 2 * (L j : Int) = k + 2 * (sumL L (j + 1) : Nat)) := e1'
   have e2 : 0 ≤ k + 2 * (sumL L j : Nat) := by omega
   have e3 : k + 2 * (sumL L j : Nat) ≤ 100000000 := by omega
   have e4 : L j ≤ 1048576 := by omega
   have e5 : ¬ (k + 2 * (sumL L (j + 1) : Nat) < 0) := by omega
   clear e1' hS hsl Q f1 it lb e1
   go_wp2_with fail
   refine (heldItemS_own b (L j) m _ wr e4 e2 e3 IT.out.2 IT.out.1).mono ?_
   rintro e w1 ⟨rfl, b1⟩
   rw [HE.out]
   have B1 : Hid (Below w.heap.size w w1) := hbw.trans (b1.mono hbw.size)
   clear b1 e2 e3 e4 ck hbw
   go_wp2
   go_roundw
   case rel => exact ⟨j + 1, by omega, by go_num, rfl, B1.out⟩
   case measure => simp [intOf]; omega
  ·have hkl : j = n := by omega
   subst hkl
   go_wp2
   go_ret
   exact ⟨rfl, hbw⟩
theorem markEventSS_own (v : Value) (P : Nat → Prop) (n : Nat) (u : Nat → Value) (L : Nat → Nat) (H : Nat → Nat → E3) (k : Int) (w : World) (hn : n ≤ 1048576) (hl : sumL L n ≤ 1048576) (k0 : 0 ≤ k) (k1 : k ≤ 50000000) (o : LE true w P v n u L H) :
  Calls Tryz.prog 78 #[v, .int .i64 k] w fun e w' => e = .returned (.int .i64 (k + 3 * (sumL L n : Nat))) ∧ LE true w' P v n u L (fun i => mkEv (k + 3 * (sumL L i : Nat))) ∧ Touch P w w' := by
 have hl' : (n : Int) ≤ 1048576 := by omega
 obtain ⟨a1, c1, rfl⟩ := ownsRow_slice o.row
 have O : Hid (LE true w P (.slice a1 n c1) n u L H) := o
 have HL : Hid (sumL L n ≤ 1048576) := hl
 clear o hl
 go_enter Tryz.func78, Tryz.ntmps78
 go_wp2_with fail
 go_loopw [1, 5] (fun q i wr => ∃ j : Nat, j ≤ n ∧ i = .int .i64 j ∧ q = .int .i64 (k + 3 * (sumL L j : Nat)) ∧ Hid (LL true 71 3 35 wr P (.slice a1 n c1) n u L (fun t => fE (if t < j then mkEv (k + 3 * (sumL L t : Nat)) else H t) (L t)) ∧ Touch P w wr)) (fun _ i _ => n - (intOf i).toNat)
 case atStart => exact ⟨0, Nat.zero_le _, rfl, by simp [sumL], O.out.cast fun i _ => by rw [if_neg (by omega)], Touch.refl _ _⟩
 case round =>
  obtain ⟨j, hj, rfl, rfl, HT⟩ := hrel
  by_cases hlt : j < n
  ·have hlt' : (j : Int) < (n : Int) := by omega
   obtain ⟨g1, m1, e1, -, -, ck, -⟩ := HT.out.1.cell hlt
   obtain rfl := slice_form e1
   have how := HT.out.1.own j hlt
   rw [if_neg (by omega)] at how
   obtain ⟨b, m, f1, lb, -, -⟩ := atE how (HT.out.1.nn (nzT _) j hlt)
   rw [f1] at ck how
   have OW : Hid (wr.ownsRow 0 71 3 (.slice (some ⟨b, 0, none⟩) (L j) m) (L j) (fE (H j) (L j))) := how
   have HU : Hid (u j = .slice (some ⟨b, 0, none⟩) (L j) m) := f1
   have hsl := sumL_at L hlt
   have hS := HL.out
   have e1' : k + 3 * (sumL L j : Nat) + 3 * (L j : Int) = k + 3 * (sumL L (j + 1) : Nat) := by simp only [sumL]; omega
   have HE : Hid (k + 3 * (sumL L j : Nat) + 3 * (L j : Int) = k + 3 * (sumL L (j + 1) : Nat)) := e1'
   have e2 : 0 ≤ k + 3 * (sumL L j : Nat) := by omega
   have e3 : k + 3 * (sumL L j : Nat) ≤ 100000000 := by omega
   have e4 : L j ≤ 1048576 := by omega
   clear e1' hS hsl how f1 e1
   go_wp2_with fail
   refine (markEventS_own b (L j) m 0 (H j) _ wr e4 e2 e3 OW.out).mono ?_
   rintro e w1 ⟨rfl, g1', o1⟩
   rw [HE.out]
   have HT1 : Hid (LL true 71 3 35 w1 P (.slice (some ⟨g1, 0, none⟩) n c1) n u L (fun t => fE (if t < j + 1 then mkEv (k + 3 * (sumL L t : Nat)) else H t) (L t)) ∧ Touch P w w1) := by
    refine ⟨(HT.out.1.remark hlt (c' := fE (mkEv (k + 3 * (sumL L j : Nat))) (L j)) (by rw [HU.out]; exact o1) fun q hq hne => g1'.block q hq fun e => hne (by rw [HU.out, e]; rfl)).cast fun t ht => ?_, HT.out.2.trans (Touch.of_grown g1' fun q e => HT.out.1.ob j hlt q (by rw [HU.out, ← e]; rfl))⟩
    by_cases et : t = j
    ·rw [if_pos et, if_pos (by omega), et]
    ·rw [if_neg et]
     by_cases e2 : t < j
     ·rw [if_pos e2, if_pos (by omega)]
     ·rw [if_neg e2, if_neg (by omega)]
   clear HT e2 e3 e4 g1' o1 ck
   go_wp2
   go_roundw
   case rel => exact ⟨j + 1, by omega, by go_num, rfl, HT1.out⟩
   case measure => simp [intOf]; omega
  ·have hkl : j = n := by omega
   subst hkl
   have HT1 : Hid (LE true wr P (.slice a1 j c1) j u L (fun i => mkEv (k + 3 * (sumL L i : Nat))) ∧ Touch P w wr) := ⟨HT.out.1.cast fun t ht => by rw [if_pos ht], HT.out.2⟩
   clear HT
   go_wp2
   go_ret
   exact ⟨rfl, HT1.out⟩
theorem heldEventSS_own (v : Value) (P : Nat → Prop) (n : Nat) (u : Nat → Value) (L : Nat → Nat) (k : Int) (w : World) (hn : n ≤ 1048576) (hl : sumL L n ≤ 1048576) (k0 : 0 ≤ k) (k1 : k ≤ 50000000) (o : LE true w P v n u L (fun i => mkEv (k + 3 * (sumL L i : Nat)))) :
  Calls Tryz.prog 82 #[v, .int .i64 k] w fun e w' => e = .returned (.int .i64 (k + 3 * (sumL L n : Nat))) ∧ Below w.heap.size w w' := by
 have hl' : (n : Int) ≤ 1048576 := by omega
 obtain ⟨a1, c1, rfl⟩ := ownsRow_slice o.row
 have O : Hid (LE true w P (.slice a1 n c1) n u L (fun i => mkEv (k + 3 * (sumL L i : Nat)))) := o
 have HL : Hid (sumL L n ≤ 1048576) := hl
 clear o hl
 go_enter Tryz.func82, Tryz.ntmps82
 go_wp2_with fail
 go_loopw [1, 5] (fun q i wr => ∃ j : Nat, j ≤ n ∧ i = .int .i64 j ∧ q = .int .i64 (k + 3 * (sumL L j : Nat)) ∧ Below w.heap.size w wr) (fun _ i _ => n - (intOf i).toNat)
 case atStart => exact ⟨0, Nat.zero_le _, rfl, by simp [sumL], Below.refl _ _⟩
 case round =>
  obtain ⟨j, hj, rfl, rfl, hbw⟩ := hrel
  by_cases hlt : j < n
  ·have hlt' : (j : Int) < (n : Int) := by omega
   have Q := O.out.below hbw
   obtain ⟨g1, m1, e1, -, -, ck, -⟩ := Q.cell hlt
   obtain rfl := slice_form e1
   obtain ⟨b, m, f1, lb, it, -⟩ := atE (Q.own j hlt) (Q.nn (nzT _) j hlt)
   rw [f1] at ck
   have IT : Hid (EvAt wr b 0 (L j) (mkEv (k + 3 * (sumL L j : Nat))) ∧ b < wr.heap.size) := ⟨it, lb⟩
   have hsl := sumL_at L hlt
   have hS := HL.out
   have e1' : k + 3 * (sumL L j : Nat) + 3 * (L j : Int) = k + 3 * (sumL L (j + 1) : Nat) := by simp only [sumL]; omega
   have HE : Hid (k + 3 * (sumL L j : Nat) + 3 * (L j : Int) = k + 3 * (sumL L (j + 1) : Nat)) := e1'
   have e2 : 0 ≤ k + 3 * (sumL L j : Nat) := by omega
   have e3 : k + 3 * (sumL L j : Nat) ≤ 100000000 := by omega
   have e4 : L j ≤ 1048576 := by omega
   have e5 : ¬ (k + 3 * (sumL L (j + 1) : Nat) < 0) := by omega
   clear e1' hS hsl Q f1 it lb e1
   go_wp2_with fail
   refine (heldEventS_own b (L j) m _ wr e4 e2 e3 IT.out.2 IT.out.1).mono ?_
   rintro e w1 ⟨rfl, b1⟩
   rw [HE.out]
   have B1 : Hid (Below w.heap.size w w1) := hbw.trans (b1.mono hbw.size)
   clear b1 e2 e3 e4 ck hbw
   go_wp2
   go_roundw
   case rel => exact ⟨j + 1, by omega, by go_num, rfl, B1.out⟩
   case measure => simp [intOf]; omega
  ·have hkl : j = n := by omega
   subst hkl
   go_wp2
   go_ret
   exact ⟨rfl, hbw⟩
def mkS (x : Int) (s : S4) : S4 := ⟨x, marks (x + 1) s.rs.length, marks (x + 1 + s.rs.length) s.os.length, x + 1 + s.rs.length + s.os.length⟩
theorem flat_set14 {f : Nat → List Value} {n i : Nat} (hl : ∀ j, j < n → (f j).length = 4) (_hi : i < n) {a0 d0 b c : Value} (hf : f i = [a0, b, c, d0]) (a d : Value) :
  flat (fun j => if j = i then [a, b, c, d] else f j) n = ((flat f n).set (i * 4) a).set (i * 4 + 3) d := by
 have hl' : ∀ j, j < n → ((fun j => if j = i then [a, b, c, d] else f j) j).length = 4 := fun j hj => by
  by_cases e : j = i
  ·simp [e]
  ·simp [e, hl j hj]
 have n1 := flat_len hl
 have n2 := flat_len hl'
 apply List.ext_getElem?
 intro q
 by_cases hq : q < n * 4
 ·have hk : q / 4 < n := by omega
  have hr : q % 4 < 4 := by omega
  have e0 : q = q / 4 * 4 + q % 4 := by omega
  have e1 := flat_at hl' hk hr
  have e2 := flat_at hl hk hr
  rw [← e0] at e1 e2
  rw [e1]
  simp only [List.getElem?_set, List.length_set, n1]
  by_cases ei : q / 4 = i
  ·simp only [if_pos ei]
   rw [ei, hf] at e2
   have hrK : q % 4 = 0 ∨ q % 4 = 1 ∨ q % 4 = 2 ∨ q % 4 = 3 := by omega
   rcases hrK with h | h | h | h <;> rw [h] at e2 ⊢
   ·rw [if_neg (by omega), if_pos (by omega), if_pos (by omega)]
    simp
   ·rw [if_neg (by omega), if_neg (by omega), e2]
    simp
   ·rw [if_neg (by omega), if_neg (by omega), e2]
    simp
   ·rw [if_pos (by omega), if_pos (by omega)]
    simp
  ·simp only [if_neg ei]
   rw [if_neg (by omega), if_neg (by omega), e2]
 ·rw [List.getElem?_eq_none (by omega), List.getElem?_eq_none (by simp only [List.length_set]; omega)]
theorem LS.mark {w : World} {P : Nat → Prop} {n : Nat} {vs : Nat → Value} {S : Nat → S4} {g cap j : Nat} (o : LS w P (.slice (some ⟨g, 0, none⟩) n cap) n vs S) (hj : j < n) {p code : Int} {ra oa : Option Addr} {rn rc on oc : Nat} (hv : vs j = stV p ra rn rc oa on oc code) (X C : Int) {w1 w2 : World} {rs' os' : List Int}
  (g1 : (w.setCell ⟨g, j * 4, none⟩ (.int .i64 X)).grownBy w1 (Value.slice ra rn rc).ownBlock) (g2 : w1.grownBy w2 (Value.slice oa on oc).ownBlock) (r1 : OwnI w2 0 (.slice ra rn rc) rs') (r2 : OwnI w2 0 (.slice oa on oc) os') :
  LS (w2.setCell ⟨g, j * 4 + 3, none⟩ (.int .i64 C)) P (.slice (some ⟨g, 0, none⟩) n cap) n (fun t => if t = j then stV X ra rn rc oa on oc C else vs t) (fun t => if t = j then ⟨X, rs', os', C⟩ else S t) ∧ Touch P w (w2.setCell ⟨g, j * 4 + 3, none⟩ (.int .i64 C)) := by
 have hg : g < w.heap.size := (o.row.lt g rfl).2
 have hRb : ∀ k, (Value.slice ra rn rc).ownBlock = some k → hasBlock (vs j) k := fun k hk => by rw [hv]; exact (hasBlock_iff _ _ _ _ _).2 (.inl hk)
 have hOb : ∀ k, (Value.slice oa on oc).ownBlock = some k → hasBlock (vs j) k := fun k hk => by rw [hv]; exact (hasBlock_iff _ _ _ _ _).2 (.inr hk)
 have ng : ¬ hasBlock (vs j) g := fun h => o.ra j hj g h rfl
 have z1 : w.heap.size ≤ w1.heap.size := by have := g1.size; simpa using this
 have hkeep : ∀ k, k < w.heap.size → k ≠ g → ¬ hasBlock (vs j) k → w2.heap[k]? = w.heap[k]? := fun k hk hne hnb => (g2.block k (by omega) fun e => hnb (hOb k e.symm)).trans ((g1.block k (by simpa using hk) fun e => hnb (hRb k e.symm)).trans (Below.heap_setCell _ _ _ _ hne))
 have hgk : w2.heap[g]? = (w.setCell ⟨g, j * 4, none⟩ (.int .i64 X)).heap[g]? := (g2.block g (by omega) fun e => ng (hOb g e.symm)).trans (g1.block g (by simpa using hg) fun e => ng (hRb g e.symm))
 have lts : ∀ t, t < n → ∀ k, hasBlock (vs t) k → k < w.heap.size := fun t ht k hk => ((o.own t ht).lt hk).2
 have hl : ∀ t, t < n → (cellsL (vs t)).length = 4 := fun t ht => (o.own t ht).cellsL.1
 have hhb : ∀ k, hasBlock (stV X ra rn rc oa on oc C) k → hasBlock (vs j) k := fun k hk => by
  rcases (hasBlock_iff _ _ _ _ _).1 hk with h | h
  ·exact hRb k h
  ·exact hOb k h
 refine ⟨⟨?_, fun t ht => ?_, o.rb, fun t ht k hk => ?_, fun t ht k hk => ?_, fun a b ha hb hab k hk => ?_⟩, ?_⟩
 ·have e : flat (fun t => cellsL (if t = j then stV X ra rn rc oa on oc C else vs t)) n = flat (fun t => if t = j then [.int .i64 X, .slice ra rn rc, .slice oa on oc, .int .i64 C] else cellsL (vs t)) n := flat_congr fun t _ => by
   by_cases et : t = j
   ·rw [if_pos et, if_pos et]; rfl
   ·rw [if_neg et, if_neg et]
  rw [e, flat_set14 hl hj (by rw [hv]; rfl)]
  exact (World.ownsRow.stored (ownsRow_blkL (World.ownsRow.stored o.row (j * 4) (.int .i64 X)).1 fun k hk => by cases hk; exact hgk) _ _).1
 ·by_cases et : t = j
  ·subst et
   simp only [if_true]
   obtain ⟨vr, vo, ee, -, -, hap⟩ := o.own t hj
   rw [hv] at ee
   simp only [stV, Value.agg.injEq, Array.mk.injEq, List.cons.injEq, and_true] at ee
   obtain ⟨-, rfl, rfl, -⟩ := ee
   refine ⟨.slice ra rn rc, .slice oa on oc, rfl, r1.blk fun k hk => Below.heap_setCell _ _ _ _ fun (e : k = g) => ng (by rw [← e]; exact hRb k hk), r2.blk fun k hk => Below.heap_setCell _ _ _ _ fun (e : k = g) => ng (by rw [← e]; exact hOb k hk), hap⟩
  ·simp only [if_neg et]
   exact (o.own t ht).blk fun k hk => (Below.heap_setCell _ _ _ _ fun e => o.ra t ht k hk (by rw [e]; rfl)).trans (hkeep k (lts t ht k hk) (fun e => o.ra t ht k hk (by rw [e]; rfl)) fun h => o.oa t j ht hj et k hk h)
 ·by_cases et : t = j
  ·simp only [if_pos et] at hk
   exact o.ob j hj k (hhb k hk)
  ·simp only [if_neg et] at hk
   exact o.ob t ht k hk
 ·by_cases et : t = j
  ·simp only [if_pos et] at hk
   exact o.ra j hj k (hhb k hk)
  ·simp only [if_neg et] at hk
   exact o.ra t ht k hk
 ·intro hbk
  by_cases ea : a = j
  ·have eb : b ≠ j := fun e => hab (by omega)
   simp only [if_pos ea] at hk
   simp only [if_neg eb] at hbk
   exact o.oa j b hj hb (Ne.symm eb) k (hhb k hk) hbk
  ·simp only [if_neg ea] at hk
   by_cases eb : b = j
   ·simp only [if_pos eb] at hbk
    exact o.oa a j ha hj ea k hk (hhb k hbk)
   ·simp only [if_neg eb] at hbk
    exact o.oa a b ha hb hab k hk hbk
 ·have t1 : Touch P w (w.setCell ⟨g, j * 4, none⟩ (.int .i64 X)) := Touch.of_set _ (o.rb g rfl) _
  have t2 : Touch P (w.setCell ⟨g, j * 4, none⟩ (.int .i64 X)) w1 := Touch.of_grown g1 fun k e => o.ob j hj k (hRb k e)
  have t3 : Touch P w1 w2 := Touch.of_grown g2 fun k e => o.ob j hj k (hOb k e)
  exact ((t1.trans t2).trans t3).trans (Touch.of_set _ (o.rb g rfl) _)
theorem LS.cast {w : World} {P : Nat → Prop} {v : Value} {n : Nat} {vs : Nat → Value} {S S' : Nat → S4} (o : LS w P v n vs S) (h : ∀ i, i < n → S i = S' i) : LS w P v n vs S' :=
 ⟨o.row, fun i hi => by rw [← h i hi]; exact o.own i hi, o.rb, o.ob, o.ra, o.oa⟩
theorem markStateS_own (v : Value) (P : Nat → Prop) (n : Nat) (vs : Nat → Value) (S : Nat → S4) (k : Int) (w : World) (hn : n ≤ 1048576) (hl : sumL (lenS S) n ≤ 1048576) (k0 : 0 ≤ k) (k1 : k ≤ 50000000) (o : LS w P v n vs S) :
  Calls Tryz.prog 76 #[v, .int .i64 k] w fun e w' => e = .returned (.int .i64 (k + (2 * n + sumL (lenS S) n : Nat))) ∧ (∃ us, LS w' P v n us (fun i => mkS (k + (2 * i + sumL (lenS S) i : Nat)) (S i))) ∧ Touch P w w' := by
 have hl' : (n : Int) ≤ 1048576 := by omega
 obtain ⟨a1, c1, rfl⟩ := ownsRow_slice o.row
 have O : Hid (LS w P (.slice a1 n c1) n vs S) := o
 have HL : Hid (sumL (lenS S) n ≤ 1048576) := hl
 clear o hl
 go_enter Tryz.func76, Tryz.ntmps76
 go_wp2_with fail
 go_loopw [1, 5] (fun q i wr => ∃ j : Nat, j ≤ n ∧ i = .int .i64 j ∧ q = .int .i64 (k + (2 * j + sumL (lenS S) j : Nat)) ∧ Hid ((∃ us, LS wr P (.slice a1 n c1) n us (fun t => if t < j then mkS (k + (2 * t + sumL (lenS S) t : Nat)) (S t) else S t)) ∧ Touch P w wr)) (fun _ i _ => n - (intOf i).toNat)
 case atStart => exact ⟨0, Nat.zero_le _, rfl, by simp [sumL], ⟨vs, O.out.cast fun i _ => by rw [if_neg (by omega)]⟩, Touch.refl _ _⟩
 case round =>
  obtain ⟨j, hj, rfl, rfl, HT⟩ := hrel
  by_cases hlt : j < n
  ·have hlt' : (j : Int) < (n : Int) := by omega
   obtain ⟨⟨us, ol⟩, tw⟩ := HT.out
   obtain ⟨D, m1, e1, Pg, hD, cel, fz⟩ := ol.cell hlt
   obtain rfl := slice_form e1
   rw [if_neg (by omega)] at cel
   obtain ⟨ra, rc, oa, oc, ev, c0, c1', c2, c3⟩ := cel
   have how := ol.own j hlt
   rw [if_neg (by omega), ev] at how
   obtain ⟨w1r, w1o, wap⟩ := how.parts
   have OL : Hid (LS wr P (.slice (some ⟨D, 0, none⟩) n c1) n us (fun t => if t < j then mkS (k + (2 * t + sumL (lenS S) t : Nat)) (S t) else S t)) := ol
   have TW : Hid (Touch P w wr) := tw
   have OR : Hid (OwnI wr 0 (.slice ra (S j).rs.length rc) (S j).rs) := w1r
   have OO : Hid (OwnI wr 0 (.slice oa (S j).os.length oc) (S j).os) := w1o
   have AP : Hid (∀ b, (Value.slice ra (S j).rs.length rc).ownBlock = some b → (Value.slice oa (S j).os.length oc).ownBlock ≠ some b) := wap
   have HV : Hid (us j = stV (S j).p ra (S j).rs.length rc oa (S j).os.length oc (S j).c) := ev
   have nR : some D ≠ (Value.slice ra (S j).rs.length rc).ownBlock := fun e => ol.ra j hlt D (by rw [ev]; exact (hasBlock_iff _ _ _ _ _).2 (.inl e.symm)) rfl
   have nO : some D ≠ (Value.slice oa (S j).os.length oc).ownBlock := fun e => ol.ra j hlt D (by rw [ev]; exact (hasBlock_iff _ _ _ _ _).2 (.inr e.symm)) rfl
   have hsl := sumL_at (lenS S) hlt
   have hS := HL.out
   have hlk : lenS S j = (S j).rs.length + (S j).os.length := rfl
   have r1 : (S j).rs.length ≤ 1048576 := by omega
   have r2 : (S j).os.length ≤ 1048576 := by omega
   have HX : Hid (mkS (k + (2 * j + sumL (lenS S) j : Nat)) (S j) = mkS (k + (2 * j + sumL (lenS S) j : Nat)) (S j)) := rfl
   generalize hx : k + (2 * j + sumL (lenS S) j : Nat) = X at *
   have x0 : 0 ≤ X := by omega
   have x1 : X ≤ 60000000 := by omega
   have HN : Hid (X + 1 + (S j).rs.length + (S j).os.length + 1 = k + (2 * (j + 1) + sumL (lenS S) (j + 1) : Nat)) := by
    show X + 1 + (S j).rs.length + (S j).os.length + 1 = k + (2 * (j + 1) + sumL (lenS S) (j + 1) : Nat)
    simp only [sumL]
    omega
   have HJ : Hid (k + (2 * j + sumL (lenS S) j : Nat) = X) := hx
   have rI : ((S j).rs.length : Int) ≤ 1048576 := by omega
   have oI : ((S j).os.length : Int) ≤ 1048576 := by omega
   clear ev wap w1r w1o how hsl hS hlk hx ol tw e1 HT HX
   go_wp2_with fail
   refine (markIntS_any ra rc 0 (S j).rs _ _ r1 (by omega) (by omega) (OR.out.blk fun b hb => Below.heap_setCell _ _ _ _ fun e => nR (by rw [hb, e]))).mono ?_
   rintro e w1 ⟨rfl, q1, g1⟩
   obtain ⟨d1, f1⟩ := gcell g1 (b := D) (by simpa using hD) nR
   have OO1 : Hid (OwnI w1 0 (.slice oa (S j).os.length oc) (S j).os) := own_apart (OO.out.blk fun b hb => Below.heap_setCell _ _ _ _ fun e => nO (by rw [hb, e])) g1 AP.out
   have hD1 : D < w1.heap.size := by have := g1.size; simp at this; omega
   have G1 : Hid (World.grownBy (wr.setCell ⟨D, j * 4, none⟩ (.int .i64 X)) w1 (Value.slice ra (S j).rs.length rc).ownBlock) := g1
   have R1 : Hid (OwnI w1 0 (.slice ra (S j).rs.length rc) (marks (X + 1) (S j).rs.length)) := q1
   clear g1 q1
   go_wp2_with fail
   refine (markIntS_any oa oc 0 (S j).os _ _ r2 (by omega) (by omega) OO1.out).mono ?_
   rintro e w2 ⟨rfl, q2, g2⟩
   obtain ⟨d2, f2⟩ := gcell g2 (b := D) hD1 nO
   have R2 : OwnI w2 0 (.slice ra (S j).rs.length rc) (marks (X + 1) (S j).rs.length) := own_apart R1.out g2 fun b hb e => AP.out b e hb
   have HM := OL.out.mark hlt HV.out X (X + 1 + (S j).rs.length + (S j).os.length) G1.out g2 R2 q2
   have HT2 : Hid ((∃ us, LS (w2.setCell ⟨D, j * 4 + 3, none⟩ (.int .i64 (X + 1 + (S j).rs.length + (S j).os.length))) P (.slice (some ⟨D, 0, none⟩) n c1) n us (fun t => if t < j + 1 then mkS (k + (2 * t + sumL (lenS S) t : Nat)) (S t) else S t)) ∧ Touch P w (w2.setCell ⟨D, j * 4 + 3, none⟩ (.int .i64 (X + 1 + (S j).rs.length + (S j).os.length)))) := by
    refine ⟨⟨_, HM.1.cast fun t ht => ?_⟩, TW.out.trans HM.2⟩
    by_cases et : t = j
    ·rw [if_pos et, if_pos (by omega), et, HJ.out]
     rfl
    ·rw [if_neg et]
     by_cases e2 : t < j
     ·rw [if_pos e2, if_pos (by omega)]
     ·rw [if_neg e2, if_neg (by omega)]
   clear g2 G1 OO1 OO OR AP HV R1 R2 HM q2 OL TW
   go_wp2
   go_roundw
   case rel => exact ⟨j + 1, by omega, by go_num, by rw [HN.out], HT2.out⟩
   case measure => simp [intOf]; omega
  ·have hkl : j = n := by omega
   subst hkl
   have HT1 : Hid ((∃ us, LS wr P (.slice a1 j c1) j us (fun i => mkS (k + (2 * i + sumL (lenS S) i : Nat)) (S i))) ∧ Touch P w wr) := by
    obtain ⟨⟨us, ol⟩, tw⟩ := HT.out
    exact ⟨⟨us, ol.cast fun t ht => by rw [if_pos ht]⟩, tw⟩
   clear HT
   go_wp2
   go_ret
   exact ⟨rfl, HT1.out⟩
theorem heldStateS_own (v : Value) (P : Nat → Prop) (n : Nat) (us : Nat → Value) (S : Nat → S4) (k : Int) (w : World) (hn : n ≤ 1048576) (hl : sumL (lenS S) n ≤ 1048576) (k0 : 0 ≤ k) (k1 : k ≤ 50000000) (o : LS w P v n us (fun i => mkS (k + (2 * i + sumL (lenS S) i : Nat)) (S i))) :
  Calls Tryz.prog 80 #[v, .int .i64 k] w fun e w' => e = .returned (.int .i64 (k + (2 * n + sumL (lenS S) n : Nat))) ∧ Below w.heap.size w w' := by
 have hl' : (n : Int) ≤ 1048576 := by omega
 obtain ⟨a1, c1, rfl⟩ := ownsRow_slice o.row
 have O : Hid (LS w P (.slice a1 n c1) n us (fun i => mkS (k + (2 * i + sumL (lenS S) i : Nat)) (S i))) := o
 have HL : Hid (sumL (lenS S) n ≤ 1048576) := hl
 clear o hl
 go_enter Tryz.func80, Tryz.ntmps80
 go_wp2_with fail
 go_loopw [1, 5] (fun q i wr => ∃ j : Nat, j ≤ n ∧ i = .int .i64 j ∧ q = .int .i64 (k + (2 * j + sumL (lenS S) j : Nat)) ∧ Below w.heap.size w wr) (fun _ i _ => n - (intOf i).toNat)
 case atStart => exact ⟨0, Nat.zero_le _, rfl, by simp [sumL], Below.refl _ _⟩
 case round =>
  obtain ⟨j, hj, rfl, rfl, hbw⟩ := hrel
  by_cases hlt : j < n
  ·have hlt' : (j : Int) < (n : Int) := by omega
   have Q := O.out.below hbw
   obtain ⟨D, m1, e1, -, hD, ⟨ra, rc, oa, oc, ev, c0, c1', c2, c3⟩, -⟩ := Q.cell hlt
   obtain rfl := slice_form e1
   have how := Q.own j hlt
   rw [ev] at how
   have hs1 := how.parts.1.slOf
   have hs2 := how.parts.2.1.slOf
   simp only [mkS, marks_length] at c0 c1' c2 c3 hs1 hs2
   have hsl := sumL_at (lenS S) hlt
   have hS := HL.out
   have hlk : lenS S j = (S j).rs.length + (S j).os.length := rfl
   have r1 : (S j).rs.length ≤ 1048576 := by omega
   have r2 : (S j).os.length ≤ 1048576 := by omega
   generalize hx : k + (2 * j + sumL (lenS S) j : Nat) = X at *
   have x0 : 0 ≤ X := by omega
   have x1 : X ≤ 60000000 := by omega
   have HN : Hid (X + 1 + (S j).rs.length + (S j).os.length + 1 = k + (2 * (j + 1) + sumL (lenS S) (j + 1) : Nat)) := by
    show X + 1 + (S j).rs.length + (S j).os.length + 1 = k + (2 * (j + 1) + sumL (lenS S) (j + 1) : Nat)
    simp only [sumL]
    omega
   have SA : Hid (Sl wr ra (marks (X + 1) (S j).rs.length) ∧ Sl wr oa (marks (X + 1 + (S j).rs.length) (S j).os.length)) := ⟨hs1, hs2⟩
   have rI : ((S j).rs.length : Int) ≤ 1048576 := by omega
   have oI : ((S j).os.length : Int) ≤ 1048576 := by omega
   have n1 : ¬ (X + 1 + ((S j).rs.length : Int) < 0) := by omega
   have n2 : ¬ (X + 1 + ((S j).rs.length : Int) + ((S j).os.length : Int) < 0) := by omega
   clear hs1 hs2 how Q ev hsl hS hlk hx e1
   go_wp2_with fail
   refine (heldIntS_marks ra rc (S j).rs.length (X + 1) wr r1 (by omega) (by omega) SA.out.1).mono ?_
   rintro e w1 ⟨rfl, hw1⟩
   rw [hw1]
   clear hw1 w1
   go_wp2_with fail
   refine (heldIntS_marks oa oc (S j).os.length (X + 1 + (S j).rs.length) wr r2 (by omega) (by omega) SA.out.2).mono ?_
   rintro e w1 ⟨rfl, hw1⟩
   rw [hw1]
   clear hw1 w1
   go_wp2
   go_roundw
   case rel => exact ⟨j + 1, by omega, by go_num, by rw [HN.out], hbw⟩
   case measure => simp [intOf]; omega
  ·have hkl : j = n := by omega
   subst hkl
   go_wp2
   go_ret
   exact ⟨rfl, hbw⟩
section
variable {P : Program} {ops : Array Oper} {Q : Exit → Act → World → Prop} {md : Region.Mode} {S : World → Prop} {G : Nat → Bool}
def notB (b : Bool) : Nat := bif b then 0 else 1
def outI (b : Bool) (i : Nat) : List Nat := bif b then [] else [i]
theorem outI_mem {b : Bool} {i j : Nat} (h : j ∈ outI b i) : b = false ∧ j = i := by
 cases b with
 | true => cases h
 | false => exact ⟨rfl, List.mem_singleton.1 h⟩
end
structure ZL (E : TypeId) (w : World) (P : Nat → Prop) (v : Value) (n : Nat) : Prop where
 row : w.ownsRow 0 E 1 v n (List.replicate n (.slice none 0 0))
 rb : ∀ k, v.ownBlock = some k → P k
section
variable {E : TypeId} {w w' : World} {P : Nat → Prop} {v : Value} {n : Nat}
theorem ZL.keep (o : ZL E w P v n) (hb : ∀ k, P k → k < w.heap.size → w'.heap[k]? = w.heap[k]?) : ZL E w' P v n := ⟨ownsRow_blkL o.row fun k hk => hb k (o.rb k hk) (o.row.lt k hk).2, o.rb⟩
theorem ZL.below (o : ZL E w P v n) (hb : Below w.heap.size w w') : ZL E w' P v n := o.keep fun k _ hk => hb.block k hk
theorem ZL.mono (o : ZL E w P v n) {P' : Nat → Prop} (h : ∀ k, P k → k < w.heap.size → P' k) : ZL E w P' v n := ⟨o.row, fun k hk => h k (o.rb k hk) (o.row.lt k hk).2⟩
end
theorem run_make_nils {t e : TypeId} {bytes : Nat} (K : Kind t e 1 bytes) (hz0 : (Tryz.prog.info? e).bind (·.zero) = some (.slice none 0 0)) (n : Nat) (hn : n ≤ 1048576) (w : World) : (Instr.makeSlice t (.int .i64 (n : Int)) (.int .i64 (n : Int))).run Tryz.prog w = .ok (.slice (some ⟨w.heap.size, 0, none⟩) n n) (w.alloc (.cells (madeCells #[.slice none 0 0] n) e)) := by
 obtain ⟨i, z, hi, hz, hs, hb, hzs⟩ := K.inf
 have hz' : z = .slice none 0 0 := by
  rw [hi] at hz0
  simp only [Option.bind_some, hz, Option.some.injEq] at hz0
  exact hz0
 subst hz'
 have hby : i.bytes * n ≤ 281474976710656 := by
  rw [hb]
  exact Nat.le_trans (Nat.mul_le_mul K.sml hn) (by omega)
 have hby' : (i.bytes : Int) * (n : Int) ≤ 281474976710656 := by rw [← Int.natCast_mul]; exact Int.ofNat_le.2 hby
 have h := run_make (P := Tryz.prog) w t e i (.slice none 0 0) K.und hi hz .i64 .i64 (n : Int) (n : Int) (by omega) (by omega) hby' (by omega)
 rw [hs, Nat.mul_one, Int.toNat_natCast] at h
 exact h
theorem ZL.made (E : TypeId) (w : World) (P : Nat → Prop) (hP : P w.heap.size) (n : Nat) (hn : n ≤ 1048576) : ZL E (w.alloc (.cells (madeCells #[.slice none 0 0] n) E)) P (.slice (some ⟨w.heap.size, 0, none⟩) n n) n := by
 have hc : (madeCells #[Value.slice none 0 0] n).toList = List.replicate n (.slice none 0 0) := by
  apply List.ext_getElem?
  intro i
  by_cases h : i < n
  ·simp [madeCells, h, Nat.mod_one]
  ·simp [madeCells, h]
 refine ⟨⟨by simp, .inr ⟨w.heap.size, n, madeCells #[.slice none 0 0] n, rfl, Nat.zero_le _, Array.getElem?_push_size, Nat.le_refl _, by unfold maxLen; omega, by simp [size_madeCells], ?_⟩⟩, fun k hk => by cases hk; exact hP⟩
 rw [hc, Nat.mul_one]
 simp
def nwY (n : Nat) (L : Nat → Nat) (H : Nat → Nat → I5) : Sy := ⟨n, L, H, n, fun _ => newS, n * n, fun _ => 0, fun _ _ => ⟨false, 0⟩, n, fun _ => 0, fun _ _ => ⟨0, 0, 0⟩⟩
noncomputable def snB (n : Nat) (L : Nat → Nat) (H : Nat → Nat → I5) : Bool := decide (n ≤ 4) && (nwY n L H).okB
structure OwnN (w : World) (c : Nat → Nat) (B n : Nat) (L : Nat → Nat) (H : Nat → Nat → I5) (vp vs vw vh : Value) (up us : Nat → Value) : Prop where
 p : LI true w (Cl B c 1) vp n up L H
 s : LS w (Cl B c 2) vs n us fun _ => newS
 t : ZL 124 w (Cl B c 3) vw (n * n)
 h : ZL 35 w (Cl B c 4) vh n
def Own1 (w : World) (B T n : Nat) (L : Nat → Nat) (H : Nat → Nat → I5) (vp vs vw vh : Value) : Prop := ∃ c up us, OwnN w c B n L H vp vs vw vh up us ∧ ∀ b, T ≤ b → c b = 0
theorem LL.weak {z : Bool} {e : TypeId} {sz : Nat} {E : TypeId} {w : World} {P : Nat → Prop} {v : Value} {n : Nat} {u : Nat → Value} {L : Nat → Nat} {c : Nat → List Value} (o : LL z e sz E w P v n u L c) : LL false e sz E w P v n u L c :=
 ⟨o.row, o.own, o.rb, o.ob, o.ra, o.oa, fun h i hi => o.nn (h.elim (fun h => by cases h) .inr) i hi⟩
theorem ZL.ll {e : TypeId} {sz : Nat} {E : TypeId} {w : World} {P : Nat → Prop} {v : Value} {n : Nat} (o : ZL E w P v n) (he : e ≠ 99) (c : Nat → List Value) (hc : ∀ i, c i = []) : LL false e sz E w P v n (fun _ => .slice none 0 0) (fun _ => 0) c :=
 ⟨(by rw [List.map_const']; simpa using o.row), fun i _ => by rw [hc]; exact World.ownsRow_nil _ _ _ _, o.rb, fun i _ k hk => (by cases hk), fun i _ k hk => (by cases hk), fun i j _ _ _ k hk => (by cases hk), fun h _ _ => h.elim (fun h => by cases h) (fun h => absurd h he)⟩
theorem wpG_cast {P : Program} {ops : Array Oper} {Q : Exit → Act → World → Prop} {md : Region.Mode} {S : World → Prop} {G : Nat → Bool} {fuel : Nat} {l : Array Bool} {a : Act} {w : World} (fuel' : Nat) (l' : Array Bool) (hf : fuel' = fuel) (hl : l' = l) (h : wpG P md ops Q S G fuel' l' a w) : wpG P md ops Q S G fuel l a w := by
 subst hf
 subst hl
 exact h
theorem nilItem : (Tryz.prog.info? 124).bind (·.zero) = some (.slice none 0 0) := by kernel_rfl
structure NwF (W1 : World) (n : Nat) (L : Nat → Nat) (H : Nat → Nat → I5) (a b c d : Bool) (v1 v2 v3 v4 : Value) (w : World) : Prop where
 be : Below W1.heap.size W1 w
 ow : ∃ k : Nat → Nat, (a = true → ∃ u, LI true w (Cl W1.heap.size k 1) v1 n u L H) ∧ (b = true → ZL 124 w (Cl W1.heap.size k 3) v2 (n * n)) ∧ (c = true → ZL 35 w (Cl W1.heap.size k 4) v3 n) ∧ (d = true → ∃ N, v4 = .pointer (some ⟨N, 0, none⟩) ∧ W1.heap.size ≤ N ∧ BoxC w N (.slice none 0 0) (.slice none 0 0) (.slice none 0 0) (.slice none 0 0) ∧ (∀ j, w.frozen? ⟨N, j, none⟩ = false) ∧ k N = 0)
section
variable {W1 : World} {n : Nat} {L : Nat → Nat} {H : Nat → Nat → I5} {a b c d : Bool} {v1 v2 v3 v4 : Value} {w w' : World}
theorem NwF.keepBox {N : Nat} {k : Nat → Nat} {q : Nat} (h : v4 = .pointer (some ⟨N, 0, none⟩) ∧ W1.heap.size ≤ N ∧ BoxC w N (.slice none 0 0) (.slice none 0 0) (.slice none 0 0) (.slice none 0 0) ∧ (∀ j, w.frozen? ⟨N, j, none⟩ = false) ∧ k N = 0) (hb : Below w.heap.size w w') : v4 = .pointer (some ⟨N, 0, none⟩) ∧ W1.heap.size ≤ N ∧ BoxC w' N (.slice none 0 0) (.slice none 0 0) (.slice none 0 0) (.slice none 0 0) ∧ (∀ j, w'.frozen? ⟨N, j, none⟩ = false) ∧ rcol k w.heap.size q N = 0 := by
 have hl := World.block_lt_of_cell? w _ h.2.2.1.1
 exact ⟨h.1, h.2.1, h.2.2.1.below hb, fun j => ((bcell hb).2 _ j hl).trans (h.2.2.2.1 j), (rcol_old hl).trans h.2.2.2.2⟩
theorem NwF.one (h : NwF W1 n L H a b c d v1 v2 v3 v4 w) {v : Value} {u : Nat → Value} (o : LI true w' (fun k => w.heap.size ≤ k ∧ k < w'.heap.size) v n u L H) (hb : Below w.heap.size w w') : NwF W1 n L H true b c d v v2 v3 v4 w' := by
 obtain ⟨k, -, h2, h3, h4⟩ := h.ow
 have hs := h.be.size
 exact ⟨h.be.trans (hb.mono hs), rcol k w.heap.size 1, fun _ => ⟨u, o.mono fun j hj _ => ⟨Nat.le_trans hs hj.1, rcol_new hj.1⟩⟩, fun e => ((h2 e).mono fun j hj hl => hj.old hl).below hb, fun e => ((h3 e).mono fun j hj hl => hj.old hl).below hb, fun e => by
  obtain ⟨N, hN⟩ := h4 e
  exact ⟨N, NwF.keepBox hN hb⟩⟩
theorem NwF.two (h : NwF W1 n L H a b c d v1 v2 v3 v4 w) (hn : n * n ≤ 1048576) : NwF W1 n L H a true c d v1 (.slice (some ⟨w.heap.size, 0, none⟩) (n * n) (n * n)) v3 v4 (w.alloc (.cells (madeCells #[.slice none 0 0] (n * n)) 124)) := by
 obtain ⟨k, h1, -, h3, h4⟩ := h.ow
 have hs := h.be.size
 have hb := below_allocL w (.cells (madeCells #[.slice none 0 0] (n * n)) 124)
 exact ⟨h.be.trans (hb.mono hs), rcol k w.heap.size 3, fun e => by
  obtain ⟨u, o⟩ := h1 e
  exact ⟨u, (o.mono fun j hj hl => hj.old hl).below hb⟩, fun _ => ZL.made _ w _ ⟨hs, rcol_new (Nat.le_refl _)⟩ _ hn, fun e => ((h3 e).mono fun j hj hl => hj.old hl).below hb, fun e => by
  obtain ⟨N, hN⟩ := h4 e
  exact ⟨N, NwF.keepBox hN hb⟩⟩
theorem NwF.four (h : NwF W1 n L H a b c d v1 v2 v3 v4 w) : NwF W1 n L H a b c true v1 v2 v3 (.pointer (some ⟨w.heap.size, 0, none⟩)) (w.alloc (zQ2)) := by
 obtain ⟨k, h1, h2, h3, -⟩ := h.ow
 have hs := h.be.size
 have hb := below_allocL w (zQ2)
 exact ⟨h.be.trans (hb.mono hs), rcol k w.heap.size 0, fun e => by
  obtain ⟨u, o⟩ := h1 e
  exact ⟨u, (o.mono fun j hj hl => hj.old hl).below hb⟩, fun e => ((h2 e).mono fun j hj hl => hj.old hl).below hb, fun e => ((h3 e).mono fun j hj hl => hj.old hl).below hb, fun _ => ⟨_, rfl, hs, BoxC.new w _ _ _ _ _, fun j => new_frozen _ _ _ _ rfl, rcol_new (Nat.le_refl _)⟩⟩
end
structure NwS (W1 : World) (N n : Nat) (L : Nat → Nat) (H : Nat → Nat → I5) (own : Bool) (k : Nat) (w : World) (vp vs vw vh : Value) (c : Nat → Nat) (up us : Nat → Value) : Prop where
 be : Below W1.heap.size W1 w
 bx : BoxC w N vp vs vw vh
 fr : ∀ j, w.frozen? ⟨N, j, none⟩ = false
 bN : W1.heap.size ≤ N
 cN : c N = 0
 p : own = true → LI true w (Cl W1.heap.size c 1) vp n up L H
 s : LS w (Cl W1.heap.size c 2) vs k us fun _ => newS
 t : ZL 124 w (Cl W1.heap.size c 3) vw (n * n)
 h : ZL 35 w (Cl W1.heap.size c 4) vh n
section
variable {W1 : World} {N n : Nat} {L : Nat → Nat} {H : Nat → Nat → I5} {own : Bool} {k : Nat} {w : World} {vp vs vw vh : Value} {c : Nat → Nat} {up us : Nat → Value}
def nwX (pa : Option Addr) (n pc : Nat) (A : Nat → Option Addr) (L C : Nat → Nat) (H : Nat → Nat → I5) (vs vw vh : Value) (us : Nat → Value) : SysIn :=
 ⟨pa, n, pc, A, L, C, H, adOf vs, n, cpOf vs, fun i => ⟨0, adOf (fdOf (us i) 1), cpOf (fdOf (us i) 1), [0, 0, 0, 0], adOf (fdOf (us i) 2), cpOf (fdOf (us i) 2), [], 0⟩, adOf vw, n * n, cpOf vw, fun _ => none, fun _ => 0, fun _ => 0, fun _ _ => ⟨false, 0⟩, adOf vh, n, cpOf vh, fun _ => none, fun _ => 0, fun _ => 0, fun _ _ => ⟨0, 0, 0⟩⟩
end
end Go.Proofs.YtcplnkhdclcgfaaGreatDoor
