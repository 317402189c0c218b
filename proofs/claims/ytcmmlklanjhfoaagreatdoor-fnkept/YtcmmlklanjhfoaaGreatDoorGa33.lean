/- What is asked of kept states; the walks of the program's isLine and has. -/
import Derived.Test.YtcmmlklanjhfoaaGreatDoorGa24
import Derived.Test.YtcmmlklanjhfoaaGreatDoorGa31
import Derived.Maps.OwnSet
import Derived.Test.YtcmmlklanjhfoaaGreatDoorGa32
import Derived.Lib.QuietBelow
import Derived.Deep.RegionWith
namespace Go.Proofs.YtcmmlklanjhfoaaGreatDoor
open Go.ChangeShapes Go.WideShapes Go.ChangeAt Go.RowKit Go.Deep Go.Maps

/-- An element reads as itself. -/
abbrev RV : Value → Option (DataW Value × List MemPlace) := fun v => some (.held v, [])
theorem kInt : Keyed Tryz.prog 3 := int_keyed Tryz.underlying3
theorem keyI (j : Int) : WideAt.IsKeyLit (.int .i64 j) := trivial
theorem wf64 {a : Int} (h0 : -9223372036854775808 ≤ a) (h1 : a ≤ 9223372036854775807) : (Lit.int .i64 a).wf = true := WalkArith.wf_i64 (by omega)

/-- An entry of a map's literal, at the operation. -/
theorem wpList_insert_own {H : Type} {P : Program} (w : World) {ops : Array Oper} {rest : List Oper} {o : Oper} {a : Act} {Q : Exit → Act → World → Prop}
    (hg : o.guard = none) (m x v : Operand) (t : TypeId) (hop : o.op = Op.insert t m x v)
    (k e : TypeId) (K : Keyed P k) (ht : P.underlying t = some (.map k e)) (R : Value → Option (DataW H × List MemPlace)) (b n : Nat) (D : DataW H)
    (hm : a.eval m = .map (some b)) (hown : w.ownsMap P k R b n D) (hn : n < maxLen) (key val : Value) (kl : Lit) (hx : a.eval x = key) (hv : a.eval v = val) (hkey : keyOf P k key = some kl)
    (d : DataW H) (ps : List MemPlace) (hval : R val = some (d, ps))
    (hK : ∀ w', w'.ownsMap P k R b (n + 1) (D.put kl d) → w.grownBy w' (some b) → wpList P ops Q rest (a.put o.dst undef) w') :
    wpList P ops Q (o :: rest) a w := by
  refine wpList_plain hg fun K' hK' => ?_
  obtain ⟨w', hrun, r1, r2⟩ := hown.update K ht hn hkey hval
  unfold Oper.wp
  simp [execOp, hop, hm, hx, hv, hrun, Result.andThen]
  exact hK' _ _ (hK w' r1 r2)

theorem ownsMap_blk {H : Type} {P : Program} {k : TypeId} {R : Value → Option (DataW H × List MemPlace)} {w w' : World} {b n : Nat} {D : DataW H} (h : w.ownsMap P k R b n D) (hb : w'.heap[b]? = w.heap[b]?) : w'.ownsMap P k R b n D := by
  obtain ⟨es, clock, h1, r⟩ := h
  exact ⟨es, clock, hb.trans h1, r⟩

/-- The states behind 0 .. k events stand in the map of block b, their lists from block T on. -/
structure Sto (w : World) (b T k : Nat) (g : Nat → I5) (n : Nat) (eh : Nat → E3) (V : Nat → Value) (D : DataW Value) : Prop where
  own : w.ownsMap Tryz.prog 3 RV b (k + 1) D
  key : ∀ j : Int, Maps.has D (.int .i64 j) = decide (0 ≤ j ∧ j ≤ k)
  val : ∀ j : Nat, j ≤ k → ∀ z, D.atKey (.int .i64 j) z = .held (V j)
  st : ∀ j, j ≤ k → ∃ S, rp g n eh j = some S ∧ StOwn w T (V j) S.p S.rs S.os S.c
  bT : b < T
theorem Sto.keep {w w' : World} {b T k n : Nat} {g : Nat → I5} {eh : Nat → E3} {V : Nat → Value} {D : DataW Value} (h : Sto w b T k g n eh V D) (hb : ∀ i, i = b ∨ T ≤ i → i < w.heap.size → w'.heap[i]? = w.heap[i]?) : Sto w' b T k g n eh V D :=
  ⟨ownsMap_blk h.own (hb b (.inl rfl) h.own.lt), h.key, h.val, fun j hj => by
    obtain ⟨S, e, o⟩ := h.st j hj
    exact ⟨S, e, o.blk fun i hi => hb i (.inr (o.lt hi).1) (o.lt hi).2⟩, h.bT⟩
theorem Sto.below {w w' : World} {b T k n : Nat} {g : Nat → I5} {eh : Nat → E3} {V : Nat → Value} {D : DataW Value} (h : Sto w b T k g n eh V D) (hb : Below w.heap.size w w') : Sto w' b T k g n eh V D := h.keep fun i _ hi => hb.block i hi
theorem Sto.new {w w' : World} {b T n : Nat} {g : Nat → I5} {eh : Nat → E3} {v : Value} (ho : w'.ownsMap Tryz.prog 3 RV b (0 + 1) ((DataW.map []).put (.int .i64 0) (.held v))) (hg : w.grownBy w' (some b)) (hv : StOwn w T v newS.p newS.rs newS.os newS.c) (hT : b < T) : Sto w' b T 0 g n eh (fun _ => v) ((DataW.map []).put (.int .i64 0) (.held v)) := by
  refine ⟨ho, fun j => ?_, fun j hj z => ?_, fun j hj => ⟨newS, ?_, hv.blk fun i hi => hg.block i (hv.lt hi).2 fun e => ?_⟩, hT⟩
  · by_cases e : j = 0
    · subst e
      rw [has_put_same isMap_empty (keyI _)]
      simp
    · rw [has_put_other (fun h => e (by injection h))]
      have : ¬ (0 ≤ j ∧ j ≤ ((0 : Nat) : Int)) := by omega
      rw [decide_eq_false this]
      rfl
  · obtain rfl : j = 0 := by omega
    exact atKey_put_same isMap_empty (keyI _) _ _
  · obtain rfl : j = 0 := by omega
    rfl
  · have := (hv.lt hi).1
    injection e with e
    omega
theorem Sto.put {w w' : World} {b T k n : Nat} {g : Nat → I5} {eh : Nat → E3} {V : Nat → Value} {D : DataW Value} (h : Sto w b T k g n eh V D) {v : Value} {S : S4} (ho : w'.ownsMap Tryz.prog 3 RV b (k + 1 + 1) (D.put (.int .i64 ((k : Int) + 1)) (.held v))) (hg : w.grownBy w' (some b)) (hS : rp g n eh (k + 1) = some S) (hv : StOwn w T v S.p S.rs S.os S.c) : Sto w' b T (k + 1) g n eh (fun j => if j = k + 1 then v else V j) (D.put (.int .i64 ((k : Int) + 1)) (.held v)) := by
  have hT := h.bT
  have bl : ∀ {u : Value} {S : S4}, StOwn w T u S.p S.rs S.os S.c → StOwn w' T u S.p S.rs S.os S.c := fun o => o.blk fun i hi => hg.block i (o.lt hi).2 fun e => by
    have := (o.lt hi).1
    injection e with e
    omega
  refine ⟨ho, fun j => ?_, fun j hj z => ?_, fun j hj => ?_, hT⟩
  · by_cases e : j = (k : Int) + 1
    · subst e
      rw [has_put_same h.own.isMap (keyI _)]
      simp only [Int.natCast_add, Int.cast_ofNat_Int, Int.le_refl, and_true]
      rw [decide_eq_true (by omega)]
    · rw [has_put_other (fun h => e (by injection h)), h.key]
      refine decide_eq_decide.2 ⟨fun h => ⟨h.1, by omega⟩, fun h => ⟨h.1, by omega⟩⟩
  · by_cases e : j = k + 1
    · subst e
      simp only [if_true]
      exact atKey_put_same h.own.isMap (keyI _) _ _
    · simp only [if_neg e]
      rw [atKey_put_other (fun h => e (by injection h; omega))]
      exact h.val j (by omega) z
  · by_cases e : j = k + 1
    · subst e
      simp only [if_true]
      exact ⟨S, hS, bl hv⟩
    · simp only [if_neg e]
      obtain ⟨S', e1, o⟩ := h.st j (by omega)
      exact ⟨S', e1, bl o⟩

end Go.Proofs.YtcmmlklanjhfoaaGreatDoor

namespace Go.Proofs.YtcmmlklanjhfoaaGreatDoor
open Go.ChangeShapes Go.WideShapes Go.ChangeAt Go.RowKit Go.Deep Go.Sort Go.Maps

/-- The kept states ascend from one behind no event. -/
def Line (q : Nat → K9) (c : Nat) : Prop := 0 < c ∧ (q 0).n = 0 ∧ ∀ j, j + 1 < c → (q j).n < (q (j + 1)).n
/-- A kept state is the one behind its first events. -/
def KpAt (g : Nat → I5) (n : Nat) (eh : Nat → E3) (m : Nat) (x : K9) : Prop := 0 ≤ x.n ∧ x.n ≤ m ∧ rp g n eh x.n.toNat = some x.s
/-- The kept states are right. -/
structure KpOk (g : Nat → I5) (n : Nat) (eh : Nat → E3) (m : Nat) (q : Nat → K9) (c : Nat) : Prop where
  so : (repO g n eh m).isSome = true
  li : Line q c
  al : ∀ i, i < c → KpAt g n eh m (q i)

set_option maxRecDepth 100000 in
set_option maxHeartbeats 1000000 in
theorem isLine_any (ka : Option Addr) (c kc : Nat) (q : Nat → K9) (w : World) (hc : c ≤ 1048576) (hA : AllKept w ka c q) :
    Calls Tryz.prog 24 #[.slice ka c kc] w fun e w' => e = .returned (.bool (pB (Line q c))) ∧ Below w.heap.size w w' := by
  have hc' : (c : Int) ≤ 1048576 := by omega
  by_cases h0 : c = 0
  · subst h0
    have HV : Hid (pB (Line q 0) = false) := pB_false fun h => absurd h.1 (by omega)
    go_enter Tryz.func24, Tryz.ntmps24
    go_wp2
    go_ret
    rw [HV.out]
    exact ⟨rfl, Below.refl _ _⟩
  obtain ⟨b, off, rfl, c0, -⟩ := hA.at (show 0 < c by omega)
  have HA : Hid (AllKept w (some ⟨b, off, none⟩) c q) := hA
  have hpos : (0 : Int) < (c : Int) := by omega
  have hz : ¬ ((c : Int) = 0) := by omega
  have c0' : w.cell? ⟨b, off, none⟩ = some (.int .i64 (q 0).n) := by simpa using c0
  clear c0 hA
  rcases Bool.eq_false_or_eq_true ((q 0).n != 0) with t | t
  · have HV : Hid (pB (Line q c) = false) := pB_false fun h => by
      rw [h.2.1] at t
      simp at t
    go_enter Tryz.func24, Tryz.ntmps24
    go_wp2
    go_ret
    rw [HV.out]
    exact ⟨rfl, Below.refl _ _⟩
  have H0 : Hid ((q 0).n = 0) := by
    show (q 0).n = 0
    simpa using t
  go_enter Tryz.func24, Tryz.ntmps24
  go_wp2_with fail
  clear c0' t
  go_loopw [3] (fun i wr => ∃ k : Nat, k < c ∧ i = .int .i64 ((k : Int) + 1) ∧ Hid (Below w.heap.size w wr) ∧ Hid (∀ j, j + 1 < k + 1 → (q j).n < (q (j + 1)).n)) (fun i _ => c - (intOf i).toNat)
  case atStart => exact ⟨0, by omega, rfl, Below.refl _ _, fun j hj => by omega⟩
  case round =>
    obtain ⟨k, hk, rfl, HB, HK⟩ := hrel
    have hk' : (k : Int) < (c : Int) := by omega
    by_cases hlt : k + 1 < c
    · have hlt' : (k : Int) + 1 < (c : Int) := by omega
      obtain ⟨b1, o1, e1, c1, -⟩ := (HA.out.below HB.out).at hk
      obtain ⟨b2, o2, e2, c2, -⟩ := (HA.out.below HB.out).at hlt
      simp only [Option.some.injEq, Addr.mk.injEq, and_true] at e1 e2
      obtain ⟨rfl, rfl⟩ := e1
      obtain ⟨rfl, rfl⟩ := e2
      rcases Bool.eq_false_or_eq_true (decide ((q k).n ≥ (q (k + 1)).n)) with t | t
      · have HV : Hid (pB (Line q c) = false) := pB_false fun h => by
          have h1 := h.2.2 k hlt
          have h2 := of_decide_eq_true t
          omega
        go_wp2_with fail
        go_region
        go_wp2
        go_ret
        rw [HV.out]
        exact ⟨rfl, HB.out.drew⟩
      · have HK' : Hid (∀ j, j + 1 < k + 1 + 1 → (q j).n < (q (j + 1)).n) := fun j hj => by
          by_cases e : j = k
          · subst e
            have h2 := of_decide_eq_false t
            omega
          · exact HK.out j (by omega)
        go_wp2_with fail
        go_region
        go_wp2
        go_roundw
        case rel => exact ⟨k + 1, by omega, by go_num, HB.out.drew, HK'.out⟩
        case measure => simp [intOf]; omega
    · have HV : Hid (pB (Line q c) = true) := pB_true ⟨by omega, H0.out, fun j hj => HK.out j (by omega)⟩
      go_wp2
      go_ret
      rw [HV.out]
      exact ⟨rfl, HB.out⟩

theorem zeroSt (w : World) : (zeroValue 32).run Tryz.prog w = .ok (stV 0 none 0 0 none 0 0 0) w := by kernel_rfl

set_option maxRecDepth 100000 in
set_option maxHeartbeats 1000000 in
theorem has_any (b T m n : Nat) (g : Nat → I5) (eh : Nat → E3) (V : Nat → Value) (D : DataW Value) (x : K9) (w : World) (hS : Sto w b T m g n eh V D) (hp : progOkB g n 4 = true) (hwf : (Lit.int .i64 x.n).wf = true) (l1 : x.rs.length ≤ 1048576) (l2 : x.os.length ≤ 1048576) (h1 : Sl w x.ra x.rs) (h2 : Sl w x.oa x.os) :
    Calls Tryz.prog 25 #[.map (some b), kpV x.n x.p x.ra x.rs.length x.rc x.oa x.os.length x.oc x.c] w fun e w' => e = .returned (.bool (pB (KpAt g n eh m x))) ∧ Below w.heap.size w w' := by
  have bz : Below w.heap.size w (w.alloc (.cells #[.int .i64 x.n, .int .i64 x.p, .slice x.ra x.rs.length x.rc, .slice x.oa x.os.length x.oc, .int .i64 x.c] 48)) := below_alloc _ _
  have S2 := hS.below bz
  obtain ⟨v, ps, hrun, hv⟩ := S2.own.look_ok kInt Tryz.underlying43 (zeroSt _) rfl (keyOf_int_mk Tryz.underlying3 hwf)
  rw [S2.key] at hrun
  simp only [Option.some.injEq, Prod.mk.injEq] at hv
  by_cases hr : 0 ≤ x.n ∧ x.n ≤ m
  · obtain ⟨j, hj⟩ : ∃ j : Nat, x.n = j := ⟨x.n.toNat, by omega⟩
    obtain ⟨S, e1, o⟩ := S2.st j (by omega)
    have ev : v = V j := by
      have h3 := S2.val j (by omega) (.held (stV 0 none 0 0 none 0 0 0))
      rw [← hj] at h3
      have h4 := hv.1.trans h3
      injection h4
    obtain ⟨ra, rc, oa, oc, e2, s1, s2⟩ := o.read
    rw [ev, e2, decide_eq_true hr] at hrun
    have HLl := OkS.len (rp_ok hp j S e1)
    have l3 : S.rs.length ≤ 1048576 := by omega
    have l4 : S.os.length ≤ 1048576 := by omega
    clear HLl
    have HV : Hid (eqS S x.s = pB (KpAt g n eh m x)) := by
      show eqS S x.s = pB (KpAt g n eh m x)
      have hi : eqS S x.s = true ↔ KpAt g n eh m x := by
        rw [eqS_iff]
        have hjt : x.n.toNat = j := by omega
        refine ⟨fun h => ⟨hr.1, hr.2, ?_⟩, fun h => ?_⟩
        · rw [hjt, e1, h]
        · have := h.2.2
          rw [hjt, e1] at this
          injection this
      rcases Bool.eq_false_or_eq_true (eqS S x.s) with t | t
      · rw [t, pB_true (hi.1 t)]
      · rw [t, pB_false fun h => by rw [hi.2 h] at t; cases t]
    have H1 : Hid (Sl w x.ra x.rs ∧ Sl w x.oa x.os) := ⟨h1, h2⟩
    have H2 : Hid (Sl (w.alloc (.cells #[.int .i64 x.n, .int .i64 x.p, .slice x.ra x.rs.length x.rc, .slice x.oa x.os.length x.oc, .int .i64 x.c] 48)) ra S.rs ∧ Sl (w.alloc (.cells #[.int .i64 x.n, .int .i64 x.p, .slice x.ra x.rs.length x.rc, .slice x.oa x.os.length x.oc, .int .i64 x.c] 48)) oa S.os) := ⟨s1, s2⟩
    have bq := below_alloc (w.alloc (.cells #[.int .i64 x.n, .int .i64 x.p, .slice x.ra x.rs.length x.rc, .slice x.oa x.os.length x.oc, .int .i64 x.c] 48)) (.cells #[.int .i64 S.p, .slice ra S.rs.length rc, .slice oa S.os.length oc, .int .i64 S.c] 32)
    clear h1 h2 s1 s2 o hv S2 hS e1 e2 ev hj hr
    go_enter Tryz.func25, Tryz.ntmps25
    go_wp2_with fail
    refine (implSameState_any S x.s ra oa x.ra x.oa rc oc x.rc x.oc _ l3 l4 l1 l2 (H2.out.1.below bq) (H2.out.2.below bq) (H1.out.1.below (bz.trans (bq.mono bz.size))) (H1.out.2.below (bz.trans (bq.mono bz.size)))).mono ?_
    rintro e w1 ⟨rfl, b1⟩
    have B1 : Hid (Below w.heap.size w w1) := (bz.trans (bq.mono bz.size)).trans (b1.mono (bz.trans (bq.mono bz.size)).size)
    clear b1 hrun bq bz
    rw [HV.out]
    go_wp2
    go_ret
    exact ⟨rfl, B1.out⟩
  · have HV : Hid (pB (KpAt g n eh m x) = false) := pB_false fun h => hr ⟨h.1, h.2.1⟩
    have ev : v = stV 0 none 0 0 none 0 0 0 := by
      have h3 := atKey_of_not_has (D := D) (k := .int .i64 x.n) (by rw [S2.key, decide_eq_false hr]) (.held (stV 0 none 0 0 none 0 0 0))
      have h4 := hv.1.trans h3
      injection h4
    rw [ev, decide_eq_false hr] at hrun
    clear hv S2 hS ev h1 h2
    go_enter Tryz.func25, Tryz.ntmps25
    go_wp2
    go_ret
    rw [HV.out]
    exact ⟨rfl, by go_grown⟩

theorem repO_prog {g : Nat → I5} {n m : Nat} {eh : Nat → E3} (h : (repO g n eh m).isSome = true) : progOkB g n 4 = true ∧ m ≤ 200 ∧ ∃ S, rp g n eh m = some S := by
  unfold repO at h
  split at h
  · rename_i h1
    obtain ⟨S, e⟩ := Option.isSome_iff_exists.1 h
    exact ⟨h1.1, h1.2, S, e⟩
  · cases h

end Go.Proofs.YtcmmlklanjhfoaaGreatDoor
