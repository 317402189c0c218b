/- The one listed variable: what the condition gives a walk, and a world that meets it. -/
import Derived.Test.YtdigofhceahpdaaGreatDoorSb22
import Derived.Test.YtdigofhceahpdaaGreatDoorSb37
import Derived.Test.YtdigofhceahpdaaGreatDoorSb15
import Derived.Defers
import Derived.Deep.LoopGhost
import Derived.Deep.Cut
import Derived.Deep.MidRow
import Derived.Laws.EntriesVeiled
import Derived.Test.YtdigofhceahpdaaGreatDoorRows
import Derived.Test.YtdigofhceahpdaaGreatDoorTie
import Derived.ChangeSame
import Derived.ChangeVars
import Derived.JoinedOf
import Derived.RowKit
import Derived.RowKitTokens
import Derived.LaidLaws
import Derived.LaidHandle
import Derived.Stop.Joined
namespace Go.Proofs.YtdigofhceahpdaaGreatDoor
open Go.ChangeShapes Go.WideShapes Go.ChangeAt Go.RowKit Go.Deep
set_option maxRecDepth 100000 in
set_option maxHeartbeats 1000000 in
theorem eqStateS_same (D1 h1 D2 h2 n c1 c2 : Nat) (S : Nat → S4) (v1 v2 : Nat → Value) (w : World) (hn : n ≤ 1048576) (hl : ∀ i, i < n → (S i).rs.length ≤ 1048576 ∧ (S i).os.length ≤ 1048576) (o1 : OutState w D1 h1 n S v1) (o2 : OutState w D2 h2 n S v2) :
   Calls Tryz.prog 29 #[.slice (some ⟨D1, 0, none⟩) n c1, .slice (some ⟨D2, 0, none⟩) n c2] w fun e w' => e = .returned (.bool true) ∧ Below w.heap.size w w' := by
 have hl' : (n : Int) ≤ 1048576 := by omega
 have O1 : Hid (OutState w D1 h1 n S v1) := o1
 have O2 : Hid (OutState w D2 h2 n S v2) := o2
 have HL : Hid (∀ i, i < n → (S i).rs.length ≤ 1048576 ∧ (S i).os.length ≤ 1048576) := hl
 clear o1 o2 hl
 go_enter Tryz.func29, Tryz.ntmps29
 go_wp2_with fail
 go_loopw [5] (fun i wr => ∃ k : Nat, k ≤ n ∧ i = .int .i64 k ∧ Below w.heap.size w wr) (fun i _ => n - (intOf i).toNat)
 case atStart => exact ⟨0, Nat.zero_le _, rfl, Below.refl _ _⟩
 case round =>
   obtain ⟨k, hk, rfl, hbw⟩ := hrel
   have hs := hbw.size
   by_cases hlt : k < n
   · have P1 : Hid (OutState wr D1 h1 n S v1) := O1.out.below hbw O1.out.le
     have P2 : Hid (OutState wr D2 h2 n S v2) := O2.out.below hbw O2.out.le
     obtain ⟨ra, rc, oa, oc, e1, a0, a1, a2, a3⟩ := P1.out.cel k hlt
     obtain ⟨ra', rc', oa', oc', e2, b0, b1, b2, b3⟩ := P2.out.cel k hlt
     have hsl1 : Sl wr ra (S k).rs ∧ Sl wr oa (S k).os := by
       obtain ⟨x1, x2, x3, x4, e, s1, s2⟩ := (P1.out.own k hlt).read
       rw [e1] at e
       simp only [Value.agg.injEq, Array.mk.injEq, List.cons.injEq, Value.slice.injEq, and_true, true_and] at e
       obtain ⟨⟨rfl, rfl⟩, rfl, rfl⟩ := e
       exact ⟨s1, s2⟩
     have hsl2 : Sl wr ra' (S k).rs ∧ Sl wr oa' (S k).os := by
       obtain ⟨x1, x2, x3, x4, e, s1, s2⟩ := (P2.out.own k hlt).read
       rw [e2] at e
       simp only [Value.agg.injEq, Array.mk.injEq, List.cons.injEq, Value.slice.injEq, and_true, true_and] at e
       obtain ⟨⟨rfl, rfl⟩, rfl, rfl⟩ := e
       exact ⟨s1, s2⟩
     have H1 : Hid (Sl wr ra (S k).rs ∧ Sl wr oa (S k).os) := hsl1
     have H2 : Hid (Sl wr ra' (S k).rs ∧ Sl wr oa' (S k).os) := hsl2
     have hlt' : (k : Int) < (n : Int) := by omega
     clear hsl1 hsl2 e1 e2
     go_wp2_with fail
     first | (go_region_with (go_at_call 71; refine (eqState_same _ _ ra oa ra' oa' rc oc rc' oc' (S k).rs (S k).os wr.drew (HL.out k hlt).1 (HL.out k hlt).2 H1.out.1 H1.out.2 H2.out.1 H2.out.2).mono ?_; rintro e w1 ⟨rfl, hq1⟩)) | fail
     all_goals
       go_wp2
       go_roundw
       case rel => exact ⟨k + 1, by omega, by go_num, hbw.drew.trans (hq1.mono hs)⟩
       case measure => simp [intOf]; omega
   · go_wp2
     go_ret
     exact ⟨rfl, hbw⟩
structure MkS (w wr : World) (D j : Nat) (vs : Nat → Value) : Prop where
 tch : Touch (fun b => b = D ∨ ∃ t, t < j ∧ hasBlock (vs t) b) w wr
 cel : ∀ i, j * 4 ≤ i → wr.cell? ⟨D, i, none⟩ = w.cell? ⟨D, i, none⟩
 fr : ∀ i, wr.frozen? ⟨D, i, none⟩ = false
end Go.Proofs.YtdigofhceahpdaaGreatDoor
namespace Go.Proofs.YtdigofhceahpdaaGreatDoor
open Go.ChangeShapes Go.WideShapes Go.ChangeAt Go.RowKit Go.Deep
set_option maxRecDepth 100000 in
theorem open_stateCells {H : Type} {enc : TypeId × Value → H} {w : World} {base fuel : Nat} {held : Bool} {c0 c1 c2 c3 : Value} {x : DataW H × List MemPlace}
   (hf' : DataW.trod enc Tryz.prog w base (fun _ => true) held fuel 115 [c0, c1, c2, c3] = some x) :
   ∃ q : St8, (c0 = .int .i64 q.p ∧ c1 = .slice q.ra q.rs.length q.rc ∧ c2 = .slice q.oa q.os.length q.oc ∧ c3 = .int .i64 q.c) ∧ (q.rs.length ≤ maxLen ∧ q.os.length ≤ maxLen) ∧ Sl w q.ra q.rs ∧ Sl w q.oa q.os := by
 obtain ⟨xs, m, -, -, -, hl, hx⟩ := DataW.trod_struct Tryz.underlying115 hf'
 have hl : xs.length = 4 := hl
 have q0 : DataW.trod enc Tryz.prog w base (fun _ => true) held m 3 [c0] = xs[0]? := by simpa [cellsInt] using hx 0 _ rfl
 have q1 : DataW.trod enc Tryz.prog w base (fun _ => true) held m 52 [c1] = xs[1]? := by simpa [cellsInts] using hx 1 _ rfl
 have q2 : DataW.trod enc Tryz.prog w base (fun _ => true) held m 52 [c2] = xs[2]? := by simpa [cellsInts] using hx 2 _ rfl
 have q3 : DataW.trod enc Tryz.prog w base (fun _ => true) held m 3 [c3] = xs[3]? := by simpa [cellsInt] using hx 3 _ rfl
 rw [List.getElem?_eq_getElem (by omega)] at q0 q1 q2 q3
 obtain ⟨z0, e0, -, -⟩ := DataW.trod_int Tryz.underlying3 q0
 obtain ⟨z3, e3, -, -⟩ := DataW.trod_int Tryz.underlying3 q3
 obtain ⟨ra, rc, rs, rfl, hr, h1⟩ := open_intRow q1
 obtain ⟨oa, oc, os, rfl, ho, h2⟩ := open_intRow q2
 simp only [List.cons.injEq, and_true] at e0 e3
 subst e0 e3
 exact ⟨⟨z0, ra, rc, rs, oa, oc, os, z3⟩, ⟨rfl, rfl, rfl, rfl⟩, ⟨hr, ho⟩, h1, h2⟩
theorem open_StateS {H : Type} {enc : TypeId × Value → H} {w : World} {held : Bool} {base : Nat} {a0 : Option Addr} {len cap : Nat} {d : DataW H} {p : List MemPlace}
   (h : DataW.Trod enc Tryz.prog w base (fun _ => true) held 38 (.slice a0 len cap) d p) :
   len ≤ maxLen ∧ ∃ q, AllState w a0 len q ∧ ∀ i, i < len → (q i).rs.length ≤ maxLen ∧ (q i).os.length ≤ maxLen := by
 obtain ⟨fuel, hf⟩ := h
 have inh : Inhabited St8 := ⟨⟨0, none, 0, [], none, 0, [], 0⟩⟩
 rcases Go.Deep.open_slice Tryz.underlying38 hf with ⟨hcs, _⟩ | ⟨a, len', cap', m, n, D, Pl, hcs, _, hl, hm, hmm, _, hx⟩
 · simp [Value.cells] at hcs
   obtain ⟨_, rfl, _⟩ := hcs
   exact ⟨Nat.zero_le _, fun _ => default, ⟨.inl rfl, fun i hi => by omega⟩, fun i hi => by omega⟩
 · simp [Value.cells] at hcs
   obtain ⟨rfl, rfl, rfl⟩ := hcs
   refine ⟨Nat.le_trans hl hm, ?_⟩
   have hle : len ≤ m := by rw [hmm]; split <;> omega
   rw [cellsLawState] at hx
   obtain ⟨b, off, spot⟩ := a
   have hcell : ∀ i, i < len → ∃ q : St8, (w.cell? (Addr.add (Addr.add ⟨b, off, spot⟩ (i * 4)) 0) = some (.int .i64 q.p) ∧ w.cell? (Addr.add (Addr.add ⟨b, off, spot⟩ (i * 4)) 1) = some (.slice q.ra q.rs.length q.rc) ∧ w.cell? (Addr.add (Addr.add ⟨b, off, spot⟩ (i * 4)) 2) = some (.slice q.oa q.os.length q.oc) ∧ w.cell? (Addr.add (Addr.add ⟨b, off, spot⟩ (i * 4)) 3) = some (.int .i64 q.c)) ∧ (q.rs.length ≤ maxLen ∧ q.os.length ≤ maxLen) ∧ Sl w q.ra q.rs ∧ Sl w q.oa q.os := by
     intro i hi
     obtain ⟨cs', h1, h2⟩ := hx i (by omega)
     obtain ⟨_, hlen, hc⟩ := World.cells?_some h1
     match cs', hlen with
     | [c0, c1, c2, c3], _ =>
       obtain ⟨q, ⟨rfl, rfl, rfl, rfl⟩, hb, hs⟩ := open_stateCells h2
       exact ⟨q, ⟨hc 0 (by omega), hc 1 (by omega), hc 2 (by omega), hc 3 (by omega)⟩, hb, hs⟩
   obtain ⟨g, hg⟩ := Go.Deep.choose_lt (α := St8) hcell
   refine ⟨g, ⟨?_, fun i hi => (hg i hi).2.2⟩, fun i hi => (hg i hi).2.1⟩
   by_cases h0 : len = 0
   · exact .inl h0
   have hspot : spot = none := by
     have hx0 := (hg 0 (by omega)).1.1
     simpa [Addr.add] using World.cell?_spot hx0
   subst hspot
   have hI : ∀ i, i < len → w.cell? ⟨b, off + i * 4, none⟩ = some (.int .i64 (g i).p) ∧ w.cell? ⟨b, off + i * 4 + 1, none⟩ = some (.slice (g i).ra (g i).rs.length (g i).rc) ∧ w.cell? ⟨b, off + i * 4 + 2, none⟩ = some (.slice (g i).oa (g i).os.length (g i).oc) ∧ w.cell? ⟨b, off + i * 4 + 3, none⟩ = some (.int .i64 (g i).c) := by
     intro i hi
     obtain ⟨⟨q0, q1, q2, q3⟩, -⟩ := hg i hi
     rw [addr_addO, addr_addO] at q0 q1 q2 q3
     exact ⟨q0, q1, q2, q3⟩
   exact .inr ⟨b, off, rfl, cell_lt (hI 0 (by omega)).1, hI⟩
end Go.Proofs.YtdigofhceahpdaaGreatDoor
namespace Go.Proofs.YtdigofhceahpdaaGreatDoor
open Go.ChangeShapes Go.WideShapes Go.ChangeAt Go.RowKit Go.Deep Go.Sort
theorem Touch.set {P : Nat → Prop} {w w' : World} (h : Touch P w w') {a : Addr} (ha : P a.block) (u : Value) : Touch P w (w'.setCell a u) := h.trans (Touch.of_set w' ha u)
theorem Touch.sets {P : Nat → Prop} {b : Nat} (hb : P b) : ∀ (vs : List Value) (o : Nat) {w w' : World}, Touch P w w' → Touch P w (w'.setCells b o vs)
 | [], _, _, _, h => h
 | v :: r, o, _, _, h => Touch.sets hb r (o + 1) (h.set (a := ⟨b, o, none⟩) hb v)
theorem infoHis : (Tryz.prog.info? 101).map (·.size) = some 21 := by kernel_rfl
set_option maxRecDepth 100000 in
set_option maxHeartbeats 1000000 in
theorem rowBack (X Bf Hb : Nat) (w : World) (cs : List Value) (hl : cs.length = 21) (h1 : ∀ v ∈ cs, v.oneCell' = true) (hB : w.rangeAt Bf 0 cs) (hT : w.there X 4 21) (hH : w.cell? ⟨Hb, 0, none⟩ = some (.pointer (some ⟨X, 4, none⟩))) (u : FrameMode) :
   CallsD Tryz.prog 123 #[.pointer (some ⟨Bf, 0, none⟩), .pointer (some ⟨Hb, 0, none⟩)] u w fun e u' w' => u' = u ∧ (e = .returned (.tuple #[]) ∧ Touch (fun b => b = X) w w') := by
 have HB : Hid (w.rangeAt Bf 0 cs) := hB
 have HT : Hid (w.there X 4 cs.toArray.size) := by rw [show cs.toArray.size = 21 by simp [hl]]; exact hT
 have HI : Hid ((Tryz.prog.info? 101).map (·.size) = some cs.length) := by rw [hl]; exact infoHis
 have HO : Hid (cs.toArray.all (·.oneCell') = true) := all_oneCell_toArray h1
 clear hB hT h1 hl
 go_enter_d Tryz.func123, Tryz.ntmps123
 go_wp2_with (first | (refine wpList_load_mid rfl 101 (.tmp 0) rfl Bf 0 rfl cs _ HB.out Tryz.underlying101 rfl HI.out ?_) | (refine wpList_store_mid rfl 101 (.tmp 4) (.tmp 3) rfl X 4 cs.toArray rfl rfl HT.out (by simpa using HI.out) HO.out ?_))
 go_end0
 exact ⟨rfl, Touch.sets (P := fun b => b = X) rfl _ _ (Touch.refl _ _)⟩
def hisL (ha : Option Addr) (hc : Nat) (y : Hs) (d : Nat → Nat) : List Value :=
 [.slice ha y.n hc, .int .i64 (d 0), .int .i64 (d 1), .int .i64 (d 2), .int .i64 (d 3),
  .int .i64 (y.opn d 0 0), .int .i64 (y.opn d 0 1), .int .i64 (y.opn d 0 2), .int .i64 (y.opn d 0 3), .int .i64 (y.opn d 1 0), .int .i64 (y.opn d 1 1), .int .i64 (y.opn d 1 2), .int .i64 (y.opn d 1 3),
  .int .i64 (y.opn d 2 0), .int .i64 (y.opn d 2 1), .int .i64 (y.opn d 2 2), .int .i64 (y.opn d 2 3), .int .i64 (y.opn d 3 0), .int .i64 (y.opn d 3 1), .int .i64 (y.opn d 3 2), .int .i64 (y.opn d 3 3)]
theorem HisP.range {w : World} {X : Nat} {ha : Option Addr} {hc : Nat} {y : Hs} {d : Nat → Nat} (h : HisP w X ha hc y d) : w.rangeAt X 4 (hisL ha hc y d) := by
 intro j v hj
 have hl : j < 21 := by
   have := (List.getElem?_eq_some_iff.1 hj).1
   simpa [hisL] using this
 match j, hl, hj with
 | 0, _, hj => rw [← hj]; exact h.c4
 | 1, _, hj => rw [← hj]; exact h.pt 0 (by omega)
 | 2, _, hj => rw [← hj]; exact h.pt 1 (by omega)
 | 3, _, hj => rw [← hj]; exact h.pt 2 (by omega)
 | 4, _, hj => rw [← hj]; exact h.pt 3 (by omega)
 | 5, _, hj => rw [← hj]; exact h.op 0 0 (by omega) (by omega)
 | 6, _, hj => rw [← hj]; exact h.op 0 1 (by omega) (by omega)
 | 7, _, hj => rw [← hj]; exact h.op 0 2 (by omega) (by omega)
 | 8, _, hj => rw [← hj]; exact h.op 0 3 (by omega) (by omega)
 | 9, _, hj => rw [← hj]; exact h.op 1 0 (by omega) (by omega)
 | 10, _, hj => rw [← hj]; exact h.op 1 1 (by omega) (by omega)
 | 11, _, hj => rw [← hj]; exact h.op 1 2 (by omega) (by omega)
 | 12, _, hj => rw [← hj]; exact h.op 1 3 (by omega) (by omega)
 | 13, _, hj => rw [← hj]; exact h.op 2 0 (by omega) (by omega)
 | 14, _, hj => rw [← hj]; exact h.op 2 1 (by omega) (by omega)
 | 15, _, hj => rw [← hj]; exact h.op 2 2 (by omega) (by omega)
 | 16, _, hj => rw [← hj]; exact h.op 2 3 (by omega) (by omega)
 | 17, _, hj => rw [← hj]; exact h.op 3 0 (by omega) (by omega)
 | 18, _, hj => rw [← hj]; exact h.op 3 1 (by omega) (by omega)
 | 19, _, hj => rw [← hj]; exact h.op 3 2 (by omega) (by omega)
 | 20, _, hj => rw [← hj]; exact h.op 3 3 (by omega) (by omega)
theorem hisL_one {ha : Option Addr} {hc : Nat} {y : Hs} {d : Nat → Nat} : ∀ v ∈ hisL ha hc y d, v.oneCell' = true := by
 intro v hv
 simp only [hisL, List.mem_cons, List.not_mem_nil, or_false] at hv
 rcases hv with rfl | rfl | rfl | rfl | rfl | rfl | rfl | rfl | rfl | rfl | rfl | rfl | rfl | rfl | rfl | rfl | rfl | rfl | rfl | rfl | rfl <;> rfl
theorem HisP.thereX {w : World} {X : Nat} {ha : Option Addr} {hc : Nat} {y : Hs} {d : Nat → Nat} (h : HisP w X ha hc y d) : w.there X 4 21 := fun j hj => ⟨h.range.isSome j (by simpa [hisL] using hj), h.fr _⟩
theorem sumL_same {d e : Nat → Nat} : ∀ {n : Nat}, (∀ i, i < n → d i = e i) → sumL d n = sumL e n
 | 0, _ => rfl
 | n + 1, h => by
   show sumL d n + d n = sumL e n + e n
   rw [sumL_same fun i hi => h i (by omega), h n (by omega)]
theorem sumL_zero : ∀ n, sumL (fun _ => 0) n = 0
 | 0 => rfl
 | n + 1 => sumL_zero n
theorem sumL_up {d : Nat → Nat} {k : Nat} : ∀ {n : Nat}, k < n → sumL (up d k) n = sumL d n + 1
 | 0, h => by omega
 | n + 1, h => by
   show sumL (up d k) n + up d k n = sumL d n + d n + 1
   by_cases e : k = n
   · subst e
     rw [up_same]
     have : sumL (up d k) k = sumL d k := sumL_same fun i hi => up_other (by omega)
     omega
   · rw [sumL_up (by omega), up_other (by omega)]
     omega
theorem sumL_le {d l : Nat → Nat} (h : ∀ i, d i ≤ l i) : ∀ n, sumL d n ≤ sumL l n
 | 0 => Nat.le_refl _
 | n + 1 => by
   have := sumL_le h n
   have := h n
   show sumL d n + d n ≤ sumL l n + l n
   omega
structure Rw (w0 W wr : World) (X Bf Hb : Nat) (ha : Option Addr) (hc : Nat) (y : Hs) (cs : List Value) (d : Nat → Nat) : Prop where
 pu : y.Put d
 hp : HisP wr X ha hc y d
 be : Below w0.heap.size w0 wr
 hb : wr.cell? ⟨Hb, 0, none⟩ = some (.pointer (some ⟨X, 4, none⟩))
 bf : wr.rangeAt Bf 0 cs
theorem rangeAt_touch {P : Nat → Prop} {w w' : World} {b o : Nat} {cs : List Value} (h : w.rangeAt b o cs) (t : Touch P w w') (hb : ¬ P b) : w'.rangeAt b o cs := fun j v hv => by
 have := h j v hv
 rw [t.cell (World.block_lt_of_cell? w _ this) hb]
 exact this
theorem Rw.touch {w0 W wr w' : World} {X Bf Hb : Nat} {ha : Option Addr} {hc : Nat} {y : Hs} {cs : List Value} {d d' : Nat → Nat} (h : Rw w0 W wr X Bf Hb ha hc y cs d) (t : Touch (fun b => b = X) wr w') (hX : w0.heap.size ≤ X) (hB : Bf ≠ X) (hH : Hb ≠ X) (pu : y.Put d') (hp : HisP w' X ha hc y d') : Rw w0 W w' X Bf Hb ha hc y cs d' :=
 ⟨pu, hp, h.be.trans (t.below h.be.size fun b e => by omega), (t.cell (World.block_lt_of_cell? wr _ h.hb) hH 0).trans h.hb, rangeAt_touch h.bf t hB⟩
set_option maxRecDepth 100000 in
set_option maxHeartbeats 2000000 in
theorem canRow_any (X : Nat) (ha : Option Addr) (hc : Nat) (hA : Nat → Option Addr) (hC : Nat → Nat) (y : Hs) (w0 w : World) (hE : HisE w0 ha hA hC y) (hb : Below w0.heap.size w0 w) (hX : w0.heap.size ≤ X) (hP : HisP w X ha hc y (fun _ => 0)) (h4 : y.n ≤ 4) (hp : y.Peers) (hl : ∀ i, i < y.n → y.l i ≤ 200) :
   Calls Tryz.prog 69 #[.pointer (some ⟨X, 4, none⟩)] w fun e w' => e = .returned (.bool (qB y.Row)) ∧ Below w0.heap.size w0 w' := by
 have HE : Hid (HisE w0 ha hA hC y) := hE
 have HH : Hid (y.Peers ∧ (∀ i, i < y.n → y.l i ≤ 200) ∧ w0.heap.size ≤ X) := ⟨hp, hl, hX⟩
 have zX := hP.lt
 obtain ⟨cs, hcs, hlen, hone⟩ : ∃ cs, w.rangeAt X 4 cs ∧ cs.length = 21 ∧ ∀ v ∈ cs, v.oneCell' = true := ⟨_, hP.range, rfl, hisL_one⟩
 have hsz : cs.toArray.size = 21 := by simpa using hlen
 have HL21 : Hid (cs.length = 21 ∧ ∀ v ∈ cs, v.oneCell' = true) := ⟨hlen, hone⟩
 have HI : Hid ((Tryz.prog.info? 101).map (·.size) = some cs.length) := by rw [hlen]; exact infoHis
 have HR : Hid ((w.alloc (.cells #[.pointer (some ⟨X, 4, none⟩)] 149)).rangeAt X 4 cs) := World.rangeAt_alloc hcs _
 have HO : Hid (cs.toArray.all (·.oneCell') = true) := all_oneCell_toArray hone
 have hmf : ∀ (fn : Fn) (first cap : Array Value) (w : World), (Instr.makeFunc fn first cap).run Tryz.prog w = .ok (.func fn first cap) w := fun _ _ _ _ => rfl
 have HT : Hid (((w.alloc (.cells #[.pointer (some ⟨X, 4, none⟩)] 149)).alloc (.cells #[.slice none 0 0, .int .i64 0, .int .i64 0, .int .i64 0, .int .i64 0, .int .i64 0, .int .i64 0, .int .i64 0, .int .i64 0, .int .i64 0, .int .i64 0, .int .i64 0, .int .i64 0, .int .i64 0, .int .i64 0, .int .i64 0, .int .i64 0, .int .i64 0, .int .i64 0, .int .i64 0, .int .i64 0] 101)).there (w.heap.size + 1) 0 cs.toArray.size) := fun j hj => by
   have hj' : j < 21 := by rw [← hsz]; exact hj
   refine ⟨?_, new_frozen _ _ _ _ (by simp)⟩
   rw [Nat.zero_add, new_cell _ _ _ j (by simp), Array.getElem?_eq_getElem (by simpa using hj')]
   rfl
 have tw : Touch (fun b => b = w.heap.size + 1) w (((w.alloc (.cells #[.pointer (some ⟨X, 4, none⟩)] 149)).alloc (.cells #[.slice none 0 0, .int .i64 0, .int .i64 0, .int .i64 0, .int .i64 0, .int .i64 0, .int .i64 0, .int .i64 0, .int .i64 0, .int .i64 0, .int .i64 0, .int .i64 0, .int .i64 0, .int .i64 0, .int .i64 0, .int .i64 0, .int .i64 0, .int .i64 0, .int .i64 0, .int .i64 0, .int .i64 0] 101)).setCells (w.heap.size + 1) 0 cs) := Touch.sets (P := fun b => b = w.heap.size + 1) rfl _ _ (Touch.of_below ((below_alloc _ _).trans ((below_alloc _ _).mono (by simp))))
 have HRw : Hid (Rw w0 w (((w.alloc (.cells #[.pointer (some ⟨X, 4, none⟩)] 149)).alloc (.cells #[.slice none 0 0, .int .i64 0, .int .i64 0, .int .i64 0, .int .i64 0, .int .i64 0, .int .i64 0, .int .i64 0, .int .i64 0, .int .i64 0, .int .i64 0, .int .i64 0, .int .i64 0, .int .i64 0, .int .i64 0, .int .i64 0, .int .i64 0, .int .i64 0, .int .i64 0, .int .i64 0, .int .i64 0] 101)).setCells (w.heap.size + 1) 0 cs) X (w.heap.size + 1) w.heap.size ha hc y cs (fun _ => 0)) := by
   refine ⟨.start, hP.blk (tw.block X zX (by omega)), hb.trans (tw.below hb.size fun b e => by have := hb.size; omega), ?_, World.rangeAt_setCells_same _ _ _ _ (by simpa using HT.out)⟩
   rw [World.cell?_setCells_out _ _ _ _ _ (fun e => absurd e (by simp)), World.cell?_alloc_lt _ _ _ (by simp)]
   exact new_cell _ _ _ 0 rfl
 have HX : Hid (X < w.heap.size) := zX
 clear hE hp hl hX tw hb hP zX hlen hsz hcs hone
 go_enter_defers Tryz.func69, Tryz.ntmps69
 have h0 := HRw.out.hb
 go_wp2_with (first | (refine wpList_load_mid rfl 101 (.tmp 6) rfl X 4 rfl cs _ HR.out Tryz.underlying101 rfl HI.out ?_) | (refine wpList_store_mid rfl 101 (.tmp 3) (.tmp 7) rfl (w.heap.size + 1) 0 cs.toArray rfl rfl HT.out (by simpa using HI.out) HO.out ?_))
 clear HR HT HI HO
 generalize ((w.alloc (.cells #[.pointer (some ⟨X, 4, none⟩)] 149)).alloc (.cells #[.slice none 0 0, .int .i64 0, .int .i64 0, .int .i64 0, .int .i64 0, .int .i64 0, .int .i64 0, .int .i64 0, .int .i64 0, .int .i64 0, .int .i64 0, .int .i64 0, .int .i64 0, .int .i64 0, .int .i64 0, .int .i64 0, .int .i64 0, .int .i64 0, .int .i64 0, .int .i64 0, .int .i64 0] 101)).setCells (w.heap.size + 1) 0 cs = W1 at *
 have nX : Hid (w.heap.size + 1 ≠ X ∧ w.heap.size ≠ X) := by
   have := HX.out
   exact ⟨by omega, by omega⟩
 refine (next_any X ha hc hA hC y (fun _ => 0) W1 (HE.out.below HRw.out.be) HRw.out.hp h4 HH.out.1 HH.out.2.1 HRw.out.pu.le).mono ?_
 rintro e w1 ⟨q1, hor⟩
 have HNx : Hid (Rw w0 w w1 X (w.heap.size + 1) w.heap.size ha hc y cs (fun _ => 0)) := HRw.out.touch (Touch.of_below q1) HH.out.2.2 nX.out.1 nX.out.2 HRw.out.pu (HRw.out.hp.below q1)
 obtain ⟨z, rfl, HOr⟩ : ∃ z : Int, e = .returned (.int .i64 z) ∧ Hid ((∃ k, k < y.n ∧ y.Can (fun _ => 0) k ∧ z = (k : Nat)) ∨ (z = -1 ∧ ∀ p, p < y.n → ¬ y.Can (fun _ => 0) p)) := by
   rcases hor with ⟨k, hk, hcan, rfl⟩ | ⟨rfl, hn⟩
   · exact ⟨_, rfl, .inl ⟨k, hk, hcan, rfl⟩⟩
   · exact ⟨_, rfl, .inr ⟨rfl, hn⟩⟩
 clear hor q1 h0 HRw
 go_wp2_with fail
 go_loopg [4] (sumL y.l y.n) (fun k p wr => ∃ d z, k = sumL y.l y.n - sumL d y.n ∧ p = .int .i64 z ∧ Rw w0 w wr X (w.heap.size + 1) w.heap.size ha hc y cs d ∧ Hid ((∃ k, k < y.n ∧ y.Can d k ∧ z = (k : Nat)) ∨ (z = -1 ∧ ∀ p, p < y.n → ¬ y.Can d p)))
 case atStart => exact ⟨_, z, by simp [sumL_zero], rfl, HNx.out, HOr.out⟩
 case round =>
   clear HNx HOr
   obtain ⟨d, zz, hgk, rfl, rw0, HOr⟩ := hrel
   have HRr : Hid (Rw w0 w wr X (w.heap.size + 1) w.heap.size ha hc y cs d) := rw0
   have h1 := rw0.hb
   have HG : Hid (gk = sumL y.l y.n - sumL d y.n) := hgk
   clear rw0 hgk
   rcases HOr.out with ⟨k, hk, hcan, rfl⟩ | ⟨rfl, hst⟩
   · have HCn : Hid (y.Can d k) := hcan
     have hz : ¬ (k : Int) = -1 := by omega
     have hz' : ((k : Int) == -1) = false := by simp
     clear HOr hcan
     go_wp2_with fail
     refine (putOne_any X ha hc hA hC y d k wr (HE.out.below HRr.out.be) HRr.out.hp h4 hk HH.out.1 HH.out.2.1 HRr.out.pu.le HCn.out.1).mono ?_
     rintro e w1 ⟨rfl, hp1, t1⟩
     have hpu : y.Put (up d k) := .next HRr.out.pu hk HCn.out
     have HN : Hid (Rw w0 w w1 X (w.heap.size + 1) w.heap.size ha hc y cs (up d k)) := HRr.out.touch t1 HH.out.2.2 nX.out.1 nX.out.2 hpu hp1
     have HM : Hid (sumL y.l y.n - sumL (up d k) y.n < gk) := by
       have h2 := sumL_up (d := d) hk
       have h3 := sumL_le hpu.le y.n
       have h4 := HG.out
       show sumL y.l y.n - sumL (up d k) y.n < gk
       omega
     clear hp1 t1 hpu h1 HRr HG hz hz'
     generalize up d k = d2 at *
     have h1 := HN.out.hb
     go_wp2_with fail
     refine (next_any X ha hc hA hC y d2 w1 (HE.out.below HN.out.be) HN.out.hp h4 HH.out.1 HH.out.2.1 HN.out.pu.le).mono ?_
     rintro e w2 ⟨q2, hor⟩
     have HN2 : Hid (Rw w0 w w2 X (w.heap.size + 1) w.heap.size ha hc y cs d2) := HN.out.touch (Touch.of_below q2) HH.out.2.2 nX.out.1 nX.out.2 HN.out.pu (HN.out.hp.below q2)
     obtain ⟨z, rfl, HOr⟩ : ∃ z : Int, e = .returned (.int .i64 z) ∧ Hid ((∃ k, k < y.n ∧ y.Can d2 k ∧ z = (k : Nat)) ∨ (z = -1 ∧ ∀ p, p < y.n → ¬ y.Can d2 p)) := by
       rcases hor with ⟨k, hk, hcan, rfl⟩ | ⟨rfl, hn⟩
       · exact ⟨_, rfl, .inl ⟨k, hk, hcan, rfl⟩⟩
       · exact ⟨_, rfl, .inr ⟨rfl, hn⟩⟩
     clear hor q2 h1 HN
     go_wp2
     go_roundg (sumL y.l y.n - sumL d2 y.n)
     case measure => exact HM.out
     case rel => exact ⟨d2, z, rfl, rfl, HN2.out, HOr.out⟩
   · have HRow : Hid (qB (y.All d) = qB y.Row) := by
       show qB (y.All d) = qB y.Row
       have hi := Hs.row_iff HRr.out.pu HH.out.1 hst
       by_cases hr : y.Row
       · rw [qB_true hr, qB_true (hi.1 hr)]
       · rw [qB_false hr, qB_false (fun h => hr (hi.2 h))]
     have HN : Hid (Rw w0 w wr X (w.heap.size + 1) w.heap.size ha hc y cs d) := HRr.out
     clear hst HG HOr HRr
     go_wp2_with fail
     refine (allPut_any X ha hc hA hC y d wr (HE.out.below HN.out.be) HN.out.hp h4 HH.out.2.1 HN.out.pu.le).mono ?_
     rintro e w2 ⟨rfl, b2⟩
     rw [HRow.out]
     have B2 : Hid (Below wr.heap.size wr w2) := b2
     clear b2 h1
     have HB2 : Hid (Below w0.heap.size w0 w2 ∧ w2.rangeAt (w.heap.size + 1) 0 cs ∧ w2.there X 4 21 ∧ w2.cell? ⟨w.heap.size, 0, none⟩ = some (.pointer (some ⟨X, 4, none⟩))) :=
       ⟨HN.out.be.trans (B2.out.mono HN.out.be.size), rangeAt_touch (P := fun _ => False) HN.out.bf (Touch.of_below B2.out) (fun h => h), (HN.out.hp.below B2.out).thereX, (B2.out.cell (p := ⟨w.heap.size, 0, none⟩) (World.block_lt_of_cell? wr _ HN.out.hb)).trans HN.out.hb⟩
     go_wp2
     refine leaves_cons (f := 123) (args := #[.pointer (some ⟨w.heap.size + 1, 0, none⟩), .pointer (some ⟨w.heap.size, 0, none⟩)]) (by simp) (by simp [go_sem]) ?_
     refine (rowBack X (w.heap.size + 1) w.heap.size w2 cs HL21.out.1 HL21.out.2 HB2.out.2.1 HB2.out.2.2.1 HB2.out.2.2.2 .returning).mono ?_
     rintro e u' w3 ⟨rfl, rfl, t3⟩
     exact ⟨_, results_tmp rfl _ _ _, rfl, HB2.out.1.trans (t3.below HB2.out.1.size fun b e => by have := HH.out.2.2; omega)⟩
end Go.Proofs.YtdigofhceahpdaaGreatDoor
namespace Go.Proofs.YtdigofhceahpdaaGreatDoor
open Go.ChangeShapes Go.WideShapes Go.RowKit
theorem Tryz.et : Tryz.prog.globalNamed "errors.errorType" = some 0 := by kernel_rfl
theorem Tryz.rt : (Tryz.prog.cutTypes.find? (·.1 == "internal/reflectlite.rtype")).map (·.2) = some 236 := by kernel_rfl
theorem Tryz.oneRow : ((List.range 281).filter fun t => Tryz.prog.rowNamed t [101, 114, 114, 111, 114]) = [185] := by kernel_rfl
theorem Tryz.tsize : Tryz.prog.types.size = 281 := by kernel_rfl
theorem handle_of_laid {W : World} (h : laidMetH Tryz.prog [("errors.errorType", Rows.laid_errors_errorType)] W) : W.cell? ⟨0, 0, none⟩ = some (.iface 236 (.agg #[.pointer (some ⟨1, 185, none⟩)])) := by
 have h' : laidMet Tryz.prog [] W ∧ handlesMet Tryz.prog [("errors.errorType", Rows.laid_errors_errorType)] W := h
 obtain ⟨name, u, ty, e1, e2, e3, e4, e5⟩ := h'.2 _ (List.mem_singleton.2 rfl)
 have en : name = [101, 114, 114, 111, 114] := (Option.some.inj e1).symm
 subst en
 obtain rfl := Option.some.inj (Tryz.rt.symm.trans e2)
 have hm : ty ∈ (List.range 281).filter fun t => Tryz.prog.rowNamed t [101, 114, 114, 111, 114] := List.mem_filter.2 ⟨List.mem_range.2 (by rw [← Tryz.tsize]; exact e3), e4⟩
 rw [Tryz.oneRow] at hm
 obtain rfl := List.mem_singleton.1 hm
 have hh : typeHandle Tryz.prog 185 = .pointer (some ⟨1, 185, none⟩) := by kernel_rfl
 rw [hh] at e5
 simpa using World.var?_cell Tryz.et e5 0
noncomputable def laidWorld (os : Os) : World :=
 let w0 := World.holding Tryz.prog os ⟨#[], #[], []⟩
 { w0 with heap := w0.heap.modify 0 fun
     | .cells _ t frozen => .cells #[.iface 236 (.agg #[.pointer (some ⟨1, 185, none⟩)])] t frozen
     | o => o }
theorem laidWorld_met (os : Os) (args : Array Value) : laidMetH Tryz.prog [("errors.errorType", Rows.laid_errors_errorType)] ((laidWorld os).forCall (fun _ _ => 0) ⟨#[], args, []⟩).memory :=
 laidMetH_of_parts (laidMet_nil _ _) (by kernel_rfl)
end Go.Proofs.YtdigofhceahpdaaGreatDoor
