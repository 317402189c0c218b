/- What a law holds that hands out a state. -/
import Derived.Test.YtkoghgnbolaooaaGreatRa33
import Derived.Test.YtkoghgnbolaooaaGreatRa32
import Derived.Maps.OwnSet
import Derived.Lib.QuietBelow
import Derived.Deep.RegionWith
import Derived.Test.YtkoghgnbolaooaaGreatRows
import Derived.OrdersHeld
import Derived.Deep.RegionHeld3
import Derived.Test.YtkoghgnbolaooaaGreatRa19
namespace Go.Proofs.YtkoghgnbolaooaaGreat
open Go.ChangeShapes Go.WideShapes Go.ChangeAt Go.RowKit Go.Deep

set_option maxRecDepth 100000 in
set_option maxHeartbeats 400000 in
theorem eqKept_same (n p code : Int) (ra oa ra' oa' : Option Addr) (rc oc rc' oc' : Nat) (rs os : List Int) (w : World) (hr : rs.length ≤ 1048576) (ho : os.length ≤ 1048576) (h1 : Sl w ra rs) (h2 : Sl w oa os) (h1' : Sl w ra' rs) (h2' : Sl w oa' os) :
    Calls Tryz.prog 31 #[kpV n p ra rs.length rc oa os.length oc code, kpV n p ra' rs.length rc' oa' os.length oc' code] w fun e w' => e = .returned (.bool true) ∧ Below w.heap.size w w' := by
  have H1 : Hid (Sl w ra rs) := h1
  have H2 : Hid (Sl w oa os) := h2
  have H3 : Hid (Sl w ra' rs) := h1'
  have H4 : Hid (Sl w oa' os) := h2'
  clear h1 h2 h1' h2'
  go_enter Tryz.func31, Tryz.ntmps31
  go_wp2_with fail
  have bz : Below w.heap.size w ((w.alloc (.cells #[.int .i64 n, .int .i64 p, .slice ra rs.length rc, .slice oa os.length oc, .int .i64 code] 53)).alloc (.cells #[.int .i64 n, .int .i64 p, .slice ra' rs.length rc', .slice oa' os.length oc', .int .i64 code] 53)) := by go_grown
  refine (eqState_same _ _ _ _ _ _ _ _ _ _ rs os _ hr ho (H1.out.below bz) (H2.out.below bz) (H3.out.below bz) (H4.out.below bz)).mono ?_
  rintro e w1 ⟨rfl, b1⟩
  go_wp2
  go_ret
  exact ⟨rfl, bz.trans (b1.mono bz.size)⟩

set_option maxRecDepth 100000 in
set_option maxHeartbeats 1000000 in
theorem eqKeptS_same (D1 h1 D2 h2 n c1 c2 : Nat) (N : Nat → Int) (S : Nat → S4) (v1 v2 : Nat → Value) (w : World) (hn : n ≤ 1048576) (hl : ∀ i, i < n → (S i).rs.length ≤ 1048576 ∧ (S i).os.length ≤ 1048576) (o1 : OutKept w D1 h1 n N S v1) (o2 : OutKept w D2 h2 n N S v2) :
    Calls Tryz.prog 11 #[.slice (some ⟨D1, 0, none⟩) n c1, .slice (some ⟨D2, 0, none⟩) n c2] w fun e w' => e = .returned (.bool true) ∧ Below w.heap.size w w' := by
  have hl' : (n : Int) ≤ 1048576 := by omega
  have O1 : Hid (OutKept w D1 h1 n N S v1) := o1
  have O2 : Hid (OutKept w D2 h2 n N S v2) := o2
  have HL : Hid (∀ i, i < n → (S i).rs.length ≤ 1048576 ∧ (S i).os.length ≤ 1048576) := hl
  clear o1 o2 hl
  go_enter Tryz.func11, Tryz.ntmps11
  go_wp2_with fail
  go_loopw [5] (fun i wr => ∃ k : Nat, k ≤ n ∧ i = .int .i64 k ∧ Below w.heap.size w wr) (fun i _ => n - (intOf i).toNat)
  case atStart => exact ⟨0, Nat.zero_le _, rfl, Below.refl _ _⟩
  case round =>
    obtain ⟨k, hk, rfl, hbw⟩ := hrel
    have hs := hbw.size
    by_cases hlt : k < n
    · have P1 : Hid (OutKept wr D1 h1 n N S v1) := O1.out.below hbw O1.out.le
      have P2 : Hid (OutKept wr D2 h2 n N S v2) := O2.out.below hbw O2.out.le
      obtain ⟨ra, rc, oa, oc, e1, a0, a1, a2, a3, a4⟩ := P1.out.cel k hlt
      obtain ⟨ra', rc', oa', oc', e2, b0, b1, b2, b3, b4⟩ := P2.out.cel k hlt
      have hsl1 : Sl wr ra (S k).rs ∧ Sl wr oa (S k).os := by
        obtain ⟨x1, x2, x3, x4, e, s1, s2⟩ := (P1.out.own k hlt).read
        rw [e1] at e
        simp only [Value.agg.injEq, Array.mk.injEq, List.cons.injEq, Value.slice.injEq, and_true, true_and] at e
        obtain ⟨⟨rfl, rfl⟩, rfl, rfl⟩ := e
        exact ⟨s1, s2⟩
      have hsl2 : Sl wr ra' (S k).rs ∧ Sl wr oa' (S k).os := by
        obtain ⟨x1, x2, x3, x4, e, s1, s2⟩ := (P2.out.own k hlt).read
        rw [e2] at e
        simp only [Value.agg.injEq, Array.mk.injEq, List.cons.injEq, Value.slice.injEq, and_true, true_and] at e
        obtain ⟨⟨rfl, rfl⟩, rfl, rfl⟩ := e
        exact ⟨s1, s2⟩
      have H1 : Hid (Sl wr ra (S k).rs ∧ Sl wr oa (S k).os) := hsl1
      have H2 : Hid (Sl wr ra' (S k).rs ∧ Sl wr oa' (S k).os) := hsl2
      have hlt' : (k : Int) < (n : Int) := by omega
      clear hsl1 hsl2 e1 e2

      go_wp2_with fail
      first | (go_region_with (go_at_call 31; refine (eqKept_same (N k) _ _ ra oa ra' oa' rc oc rc' oc' (S k).rs (S k).os wr.drew (HL.out k hlt).1 (HL.out k hlt).2 H1.out.1 H1.out.2 H2.out.1 H2.out.2).mono ?_; rintro e w1 ⟨rfl, hq1⟩)) | fail
      all_goals
        go_wp2
        go_roundw
        case rel => exact ⟨k + 1, by omega, by go_num, hbw.drew.trans (hq1.mono hs)⟩
        case measure => simp [intOf]; omega
    · go_wp2
      go_ret
      exact ⟨rfl, hbw⟩

end Go.Proofs.YtkoghgnbolaooaaGreat

namespace Go.Proofs.YtkoghgnbolaooaaGreat
open Go.ChangeShapes Go.WideShapes Go.ChangeAt Go.RowKit Go.Deep Go.Maps

/-- An element reads as itself. -/
abbrev RV : Value → Option (DataW Value × List MemPlace) := fun v => some (.held v, [])
theorem kInt : Keyed Tryz.prog 3 := int_keyed Tryz.underlying3
theorem keyI (j : Int) : WideAt.IsKeyLit (.int .i64 j) := trivial
theorem wf64 {a : Int} (h0 : -9223372036854775808 ≤ a) (h1 : a ≤ 9223372036854775807) : (Lit.int .i64 a).wf = true := WalkArith.wf_i64 (by omega)

/-- An entry of a map's literal, at the operation. -/
theorem wpList_insert_own {H : Type} {P : Program} (w : World) {ops : Array Oper} {rest : List Oper} {o : Oper} {a : Act} {Q : Exit → Act → World → Prop}
    (hg : o.guard = none) (m x v : Operand) (t : TypeId) (hop : o.op = Op.insert t m x v)
    (k e : TypeId) (K : Keyed P k) (ht : P.underlying t = some (.map k e)) (R : Value → Option (DataW H × List MemPlace)) (b n : Nat) (D : DataW H)
    (hm : a.eval m = .map (some b)) (hown : w.ownsMap P k R b n D) (hn : n < maxLen) (key val : Value) (kl : Lit) (hx : a.eval x = key) (hv : a.eval v = val) (hkey : keyOf P k key = some kl)
    (d : DataW H) (ps : List MemPlace) (hval : R val = some (d, ps))
    (hK : ∀ w', w'.ownsMap P k R b (n + 1) (D.put kl d) → w.grownBy w' (some b) → wpList P ops Q rest (a.put o.dst undef) w') :
    wpList P ops Q (o :: rest) a w := by
  refine wpList_plain hg fun K' hK' => ?_
  obtain ⟨w', hrun, r1, r2⟩ := hown.update K ht hn hkey hval
  unfold Oper.wp
  simp [execOp, hop, hm, hx, hv, hrun, Result.andThen]
  exact hK' _ _ (hK w' r1 r2)

theorem ownsMap_blk {H : Type} {P : Program} {k : TypeId} {R : Value → Option (DataW H × List MemPlace)} {w w' : World} {b n : Nat} {D : DataW H} (h : w.ownsMap P k R b n D) (hb : w'.heap[b]? = w.heap[b]?) : w'.ownsMap P k R b n D := by
  obtain ⟨es, clock, h1, r⟩ := h
  exact ⟨es, clock, hb.trans h1, r⟩

/-- The states behind 0 .. k events stand in the map of block b, their lists from block T on. -/
structure Sto (w : World) (b T k : Nat) (g : Nat → I5) (n : Nat) (eh : Nat → E3) (V : Nat → Value) (D : DataW Value) : Prop where
  own : w.ownsMap Tryz.prog 3 RV b (k + 1) D
  key : ∀ j : Int, Maps.has D (.int .i64 j) = decide (0 ≤ j ∧ j ≤ k)
  val : ∀ j : Nat, j ≤ k → ∀ z, D.atKey (.int .i64 j) z = .held (V j)
  st : ∀ j, j ≤ k → ∃ S, rp g n eh j = some S ∧ StOwn w T (V j) S.p S.rs S.os S.c
  bT : b < T
theorem Sto.keep {w w' : World} {b T k n : Nat} {g : Nat → I5} {eh : Nat → E3} {V : Nat → Value} {D : DataW Value} (h : Sto w b T k g n eh V D) (hb : ∀ i, i = b ∨ T ≤ i → i < w.heap.size → w'.heap[i]? = w.heap[i]?) : Sto w' b T k g n eh V D :=
  ⟨ownsMap_blk h.own (hb b (.inl rfl) h.own.lt), h.key, h.val, fun j hj => by
    obtain ⟨S, e, o⟩ := h.st j hj
    exact ⟨S, e, o.blk fun i hi => hb i (.inr (o.lt hi).1) (o.lt hi).2⟩, h.bT⟩
theorem Sto.below {w w' : World} {b T k n : Nat} {g : Nat → I5} {eh : Nat → E3} {V : Nat → Value} {D : DataW Value} (h : Sto w b T k g n eh V D) (hb : Below w.heap.size w w') : Sto w' b T k g n eh V D := h.keep fun i _ hi => hb.block i hi
theorem Sto.new {w w' : World} {b T n : Nat} {g : Nat → I5} {eh : Nat → E3} {v : Value} (ho : w'.ownsMap Tryz.prog 3 RV b (0 + 1) ((DataW.map []).put (.int .i64 0) (.held v))) (hg : w.grownBy w' (some b)) (hv : StOwn w T v newS.p newS.rs newS.os newS.c) (hT : b < T) : Sto w' b T 0 g n eh (fun _ => v) ((DataW.map []).put (.int .i64 0) (.held v)) := by
  refine ⟨ho, fun j => ?_, fun j hj z => ?_, fun j hj => ⟨newS, ?_, hv.blk fun i hi => hg.block i (hv.lt hi).2 fun e => ?_⟩, hT⟩
  · by_cases e : j = 0
    · subst e
      rw [has_put_same isMap_empty (keyI _)]
      simp
    · rw [has_put_other (fun h => e (by injection h))]
      have : ¬ (0 ≤ j ∧ j ≤ ((0 : Nat) : Int)) := by omega
      rw [decide_eq_false this]
      rfl
  · obtain rfl : j = 0 := by omega
    exact atKey_put_same isMap_empty (keyI _) _ _
  · obtain rfl : j = 0 := by omega
    rfl
  · have := (hv.lt hi).1
    injection e with e
    omega
theorem Sto.put {w w' : World} {b T k n : Nat} {g : Nat → I5} {eh : Nat → E3} {V : Nat → Value} {D : DataW Value} (h : Sto w b T k g n eh V D) {v : Value} {S : S4} (ho : w'.ownsMap Tryz.prog 3 RV b (k + 1 + 1) (D.put (.int .i64 ((k : Int) + 1)) (.held v))) (hg : w.grownBy w' (some b)) (hS : rp g n eh (k + 1) = some S) (hv : StOwn w T v S.p S.rs S.os S.c) : Sto w' b T (k + 1) g n eh (fun j => if j = k + 1 then v else V j) (D.put (.int .i64 ((k : Int) + 1)) (.held v)) := by
  have hT := h.bT
  have bl : ∀ {u : Value} {S : S4}, StOwn w T u S.p S.rs S.os S.c → StOwn w' T u S.p S.rs S.os S.c := fun o => o.blk fun i hi => hg.block i (o.lt hi).2 fun e => by
    have := (o.lt hi).1
    injection e with e
    omega
  refine ⟨ho, fun j => ?_, fun j hj z => ?_, fun j hj => ?_, hT⟩
  · by_cases e : j = (k : Int) + 1
    · subst e
      rw [has_put_same h.own.isMap (keyI _)]
      simp only [Int.natCast_add, Int.cast_ofNat_Int, Int.le_refl, and_true]
      rw [decide_eq_true (by omega)]
    · rw [has_put_other (fun h => e (by injection h)), h.key]
      refine decide_eq_decide.2 ⟨fun h => ⟨h.1, by omega⟩, fun h => ⟨h.1, by omega⟩⟩
  · by_cases e : j = k + 1
    · subst e
      simp only [if_true]
      exact atKey_put_same h.own.isMap (keyI _) _ _
    · simp only [if_neg e]
      rw [atKey_put_other (fun h => e (by injection h; omega))]
      exact h.val j (by omega) z
  · by_cases e : j = k + 1
    · subst e
      simp only [if_true]
      exact ⟨S, hS, bl hv⟩
    · simp only [if_neg e]
      obtain ⟨S', e1, o⟩ := h.st j (by omega)
      exact ⟨S', e1, bl o⟩

end Go.Proofs.YtkoghgnbolaooaaGreat

namespace Go.Proofs.YtkoghgnbolaooaaGreat
open Go.ChangeShapes Go.WideShapes Go.ChangeAt Go.RowKit Go.Deep Go.Sort Go.Maps

/-- The kept states ascend from one behind no event. -/
def Line (q : Nat → K9) (c : Nat) : Prop := 0 < c ∧ (q 0).n = 0 ∧ ∀ j, j + 1 < c → (q j).n < (q (j + 1)).n
/-- A kept state is the one behind its first events. -/
def KpAt (g : Nat → I5) (n : Nat) (eh : Nat → E3) (m : Nat) (x : K9) : Prop := 0 ≤ x.n ∧ x.n ≤ m ∧ rp g n eh x.n.toNat = some x.s
/-- The kept states are right. -/
structure KpOk (g : Nat → I5) (n : Nat) (eh : Nat → E3) (m : Nat) (q : Nat → K9) (c : Nat) : Prop where
  so : (repO g n eh m).isSome = true
  li : Line q c
  al : ∀ i, i < c → KpAt g n eh m (q i)

set_option maxRecDepth 100000 in
set_option maxHeartbeats 1000000 in
theorem isLine_any (ka : Option Addr) (c kc : Nat) (q : Nat → K9) (w : World) (hc : c ≤ 1048576) (hA : AllKept w ka c q) :
    Calls Tryz.prog 62 #[.slice ka c kc] w fun e w' => e = .returned (.bool (pB (Line q c))) ∧ Below w.heap.size w w' := by
  have hc' : (c : Int) ≤ 1048576 := by omega
  by_cases h0 : c = 0
  · subst h0
    have HV : Hid (pB (Line q 0) = false) := pB_false fun h => absurd h.1 (by omega)
    go_enter Tryz.func62, Tryz.ntmps62
    go_wp2
    go_ret
    rw [HV.out]
    exact ⟨rfl, Below.refl _ _⟩
  obtain ⟨b, off, rfl, c0, -⟩ := hA.at (show 0 < c by omega)
  have HA : Hid (AllKept w (some ⟨b, off, none⟩) c q) := hA
  have hpos : (0 : Int) < (c : Int) := by omega
  have hz : ¬ ((c : Int) = 0) := by omega
  have c0' : w.cell? ⟨b, off, none⟩ = some (.int .i64 (q 0).n) := by simpa using c0
  clear c0 hA
  rcases Bool.eq_false_or_eq_true ((q 0).n != 0) with t | t
  · have HV : Hid (pB (Line q c) = false) := pB_false fun h => by
      rw [h.2.1] at t
      simp at t
    go_enter Tryz.func62, Tryz.ntmps62
    go_wp2
    go_ret
    rw [HV.out]
    exact ⟨rfl, Below.refl _ _⟩
  have H0 : Hid ((q 0).n = 0) := by
    show (q 0).n = 0
    simpa using t
  go_enter Tryz.func62, Tryz.ntmps62
  go_wp2_with fail
  clear c0' t
  go_loopw [3] (fun i wr => ∃ k : Nat, k < c ∧ i = .int .i64 ((k : Int) + 1) ∧ Hid (Below w.heap.size w wr) ∧ Hid (∀ j, j + 1 < k + 1 → (q j).n < (q (j + 1)).n)) (fun i _ => c - (intOf i).toNat)
  case atStart => exact ⟨0, by omega, rfl, Below.refl _ _, fun j hj => by omega⟩
  case round =>
    obtain ⟨k, hk, rfl, HB, HK⟩ := hrel
    have hk' : (k : Int) < (c : Int) := by omega
    by_cases hlt : k + 1 < c
    · have hlt' : (k : Int) + 1 < (c : Int) := by omega
      obtain ⟨b1, o1, e1, c1, -⟩ := (HA.out.below HB.out).at hk
      obtain ⟨b2, o2, e2, c2, -⟩ := (HA.out.below HB.out).at hlt
      simp only [Option.some.injEq, Addr.mk.injEq, and_true] at e1 e2
      obtain ⟨rfl, rfl⟩ := e1
      obtain ⟨rfl, rfl⟩ := e2
      rcases Bool.eq_false_or_eq_true (decide ((q k).n ≥ (q (k + 1)).n)) with t | t
      · have HV : Hid (pB (Line q c) = false) := pB_false fun h => by
          have h1 := h.2.2 k hlt
          have h2 := of_decide_eq_true t
          omega
        go_wp2_with fail
        go_region
        go_wp2
        go_ret
        rw [HV.out]
        exact ⟨rfl, HB.out.drew⟩
      · have HK' : Hid (∀ j, j + 1 < k + 1 + 1 → (q j).n < (q (j + 1)).n) := fun j hj => by
          by_cases e : j = k
          · subst e
            have h2 := of_decide_eq_false t
            omega
          · exact HK.out j (by omega)
        go_wp2_with fail
        go_region
        go_wp2
        go_roundw
        case rel => exact ⟨k + 1, by omega, by go_num, HB.out.drew, HK'.out⟩
        case measure => simp [intOf]; omega
    · have HV : Hid (pB (Line q c) = true) := pB_true ⟨by omega, H0.out, fun j hj => HK.out j (by omega)⟩
      go_wp2
      go_ret
      rw [HV.out]
      exact ⟨rfl, HB.out⟩

theorem zeroSt (w : World) : (zeroValue 43).run Tryz.prog w = .ok (stV 0 none 0 0 none 0 0 0) w := by kernel_rfl

set_option maxRecDepth 100000 in
set_option maxHeartbeats 1000000 in
theorem has_any (b T m n : Nat) (g : Nat → I5) (eh : Nat → E3) (V : Nat → Value) (D : DataW Value) (x : K9) (w : World) (hS : Sto w b T m g n eh V D) (hp : progOkB g n 4 = true) (hwf : (Lit.int .i64 x.n).wf = true) (l1 : x.rs.length ≤ 1048576) (l2 : x.os.length ≤ 1048576) (h1 : Sl w x.ra x.rs) (h2 : Sl w x.oa x.os) :
    Calls Tryz.prog 63 #[.map (some b), kpV x.n x.p x.ra x.rs.length x.rc x.oa x.os.length x.oc x.c] w fun e w' => e = .returned (.bool (pB (KpAt g n eh m x))) ∧ Below w.heap.size w w' := by
  have bz : Below w.heap.size w (w.alloc (.cells #[.int .i64 x.n, .int .i64 x.p, .slice x.ra x.rs.length x.rc, .slice x.oa x.os.length x.oc, .int .i64 x.c] 53)) := below_alloc _ _
  have S2 := hS.below bz
  obtain ⟨v, ps, hrun, hv⟩ := S2.own.look_ok kInt Tryz.underlying63 (zeroSt _) rfl (keyOf_int_mk Tryz.underlying3 hwf)
  rw [S2.key] at hrun
  simp only [Option.some.injEq, Prod.mk.injEq] at hv
  by_cases hr : 0 ≤ x.n ∧ x.n ≤ m
  · obtain ⟨j, hj⟩ : ∃ j : Nat, x.n = j := ⟨x.n.toNat, by omega⟩
    obtain ⟨S, e1, o⟩ := S2.st j (by omega)
    have ev : v = V j := by
      have h3 := S2.val j (by omega) (.held (stV 0 none 0 0 none 0 0 0))
      rw [← hj] at h3
      have h4 := hv.1.trans h3
      injection h4
    obtain ⟨ra, rc, oa, oc, e2, s1, s2⟩ := o.read
    rw [ev, e2, decide_eq_true hr] at hrun
    have HLl := OkS.len (rp_ok hp j S e1)
    have l3 : S.rs.length ≤ 1048576 := by omega
    have l4 : S.os.length ≤ 1048576 := by omega
    clear HLl
    have HV : Hid (eqS S x.s = pB (KpAt g n eh m x)) := by
      show eqS S x.s = pB (KpAt g n eh m x)
      have hi : eqS S x.s = true ↔ KpAt g n eh m x := by
        rw [eqS_iff]
        have hjt : x.n.toNat = j := by omega
        refine ⟨fun h => ⟨hr.1, hr.2, ?_⟩, fun h => ?_⟩
        · rw [hjt, e1, h]
        · have := h.2.2
          rw [hjt, e1] at this
          injection this
      rcases Bool.eq_false_or_eq_true (eqS S x.s) with t | t
      · rw [t, pB_true (hi.1 t)]
      · rw [t, pB_false fun h => by rw [hi.2 h] at t; cases t]
    have H1 : Hid (Sl w x.ra x.rs ∧ Sl w x.oa x.os) := ⟨h1, h2⟩
    have H2 : Hid (Sl (w.alloc (.cells #[.int .i64 x.n, .int .i64 x.p, .slice x.ra x.rs.length x.rc, .slice x.oa x.os.length x.oc, .int .i64 x.c] 53)) ra S.rs ∧ Sl (w.alloc (.cells #[.int .i64 x.n, .int .i64 x.p, .slice x.ra x.rs.length x.rc, .slice x.oa x.os.length x.oc, .int .i64 x.c] 53)) oa S.os) := ⟨s1, s2⟩
    have bq := below_alloc (w.alloc (.cells #[.int .i64 x.n, .int .i64 x.p, .slice x.ra x.rs.length x.rc, .slice x.oa x.os.length x.oc, .int .i64 x.c] 53)) (.cells #[.int .i64 S.p, .slice ra S.rs.length rc, .slice oa S.os.length oc, .int .i64 S.c] 43)
    clear h1 h2 s1 s2 o hv S2 hS e1 e2 ev hj hr
    go_enter Tryz.func63, Tryz.ntmps63
    go_wp2_with fail
    refine (implSameState_any S x.s ra oa x.ra x.oa rc oc x.rc x.oc _ l3 l4 l1 l2 (H2.out.1.below bq) (H2.out.2.below bq) (H1.out.1.below (bz.trans (bq.mono bz.size))) (H1.out.2.below (bz.trans (bq.mono bz.size)))).mono ?_
    rintro e w1 ⟨rfl, b1⟩
    have B1 : Hid (Below w.heap.size w w1) := (bz.trans (bq.mono bz.size)).trans (b1.mono (bz.trans (bq.mono bz.size)).size)
    clear b1 hrun bq bz
    rw [HV.out]
    go_wp2
    go_ret
    exact ⟨rfl, B1.out⟩
  · have HV : Hid (pB (KpAt g n eh m x) = false) := pB_false fun h => hr ⟨h.1, h.2.1⟩
    have ev : v = stV 0 none 0 0 none 0 0 0 := by
      have h3 := atKey_of_not_has (D := D) (k := .int .i64 x.n) (by rw [S2.key, decide_eq_false hr]) (.held (stV 0 none 0 0 none 0 0 0))
      have h4 := hv.1.trans h3
      injection h4
    rw [ev, decide_eq_false hr] at hrun
    clear hv S2 hS ev h1 h2
    go_enter Tryz.func63, Tryz.ntmps63
    go_wp2
    go_ret
    rw [HV.out]
    exact ⟨rfl, by go_grown⟩

theorem repO_prog {g : Nat → I5} {n m : Nat} {eh : Nat → E3} (h : (repO g n eh m).isSome = true) : progOkB g n 4 = true ∧ m ≤ 200 ∧ ∃ S, rp g n eh m = some S := by
  unfold repO at h
  split at h
  · rename_i h1
    obtain ⟨S, e⟩ := Option.isSome_iff_exists.1 h
    exact ⟨h1.1, h1.2, S, e⟩
  · cases h

end Go.Proofs.YtkoghgnbolaooaaGreat

namespace Go.Proofs.YtkoghgnbolaooaaGreat
open Go.ChangeShapes Go.WideShapes Go.ChangeAt Go.RowKit Go.Deep Go.Sort

/-- Which of the first k is the last one that is behind no more than z events. -/
def lastI (q : Nat → K9) (z : Int) : Nat → Nat
  | 0 => 0
  | k + 1 => if (q k).n ≤ z then k else lastI q z k
theorem lastI_lt (q : Nat → K9) (z : Int) : ∀ k, 0 < k → lastI q z k < k
  | 0, h => absurd h (by omega)
  | k + 1, _ => by
    unfold lastI
    split
    · omega
    · by_cases e : k = 0
      · subst e
        simp [lastI]
      · have := lastI_lt q z k (by omega)
        omega
theorem lastI_le {q : Nat → K9} {z : Int} (h0 : (q 0).n ≤ z) : ∀ k, (q (lastI q z k)).n ≤ z
  | 0 => h0
  | k + 1 => by
    unfold lastI
    split
    · assumption
    · exact lastI_le h0 k
theorem lastI_congr {q q' : Nat → K9} (z : Int) (h : ∀ i, (q' i).n = (q i).n) : ∀ k, lastI q' z k = lastI q z k
  | 0 => rfl
  | k + 1 => by
    unfold lastI
    rw [h k, lastI_congr z h k]

abbrev BoxK (w : World) (N : Nat) (x : K9) : Prop := Box5 w N (.int .i64 x.n) (.int .i64 x.p) (.slice x.ra x.rs.length x.rc) (.slice x.oa x.os.length x.oc) (.int .i64 x.c)
/-- Between the rounds of lastWithin. -/
structure Lw (w wr : World) (N : Nat) (x : K9) : Prop where
  be : Below w.heap.size w wr
  lb : BoxK wr (N + 1) x
  lf : ∀ j, wr.frozen? ⟨N + 1, j, none⟩ = false
  rb : Box5 wr N (.int .i64 0) (.int .i64 0) (.slice none 0 0) (.slice none 0 0) (.int .i64 0)
  rf : ∀ j, wr.frozen? ⟨N, j, none⟩ = false
  hN : N = w.heap.size
theorem Lw.below {w wr w' : World} {N : Nat} {x : K9} (h : Lw w wr N x) (hb : Below wr.heap.size wr w') : Lw w w' N x := by
  have e0 := hb.block N (World.block_lt_of_cell? wr _ h.rb.1)
  have e1 := hb.block (N + 1) (World.block_lt_of_cell? wr _ h.lb.1)
  exact ⟨h.be.trans (hb.mono h.be.size), h.lb.below hb, fun j => (World.frozen?_of_block e1).trans (h.lf j), h.rb.below hb, fun j => (World.frozen?_of_block e0).trans (h.rf j), h.hN⟩
theorem Lw.put {w wr : World} {N : Nat} {x : K9} (h : Lw w wr N x) (y : K9) : Lw w (((((wr.setCell ⟨N + 1, 0, none⟩ (.int .i64 y.n)).setCell ⟨N + 1, 1, none⟩ (.int .i64 y.p)).setCell ⟨N + 1, 2, none⟩ (.slice y.ra y.rs.length y.rc)).setCell ⟨N + 1, 3, none⟩ (.slice y.oa y.os.length y.oc)).setCell ⟨N + 1, 4, none⟩ (.int .i64 y.c)) N y := by
  have hl : w.heap.size ≤ N + 1 := by have := h.hN; omega
  refine ⟨((((h.be.setCell hl _).setCell hl _).setCell hl _).setCell hl _).setCell hl _, h.lb.set5 _ _ _ _ _, fun j => ?_, ((((h.rb.setO (by omega) _ _).setO (by omega) _ _).setO (by omega) _ _).setO (by omega) _ _).setO (by omega) _ _, fun j => ?_, h.hN⟩
  · simp only [World.frozen?_setCell]
    exact h.lf j
  · simp only [World.frozen?_setCell]
    exact h.rf j

set_option maxRecDepth 100000 in
set_option maxHeartbeats 2000000 in
theorem lastWithin_any (ka : Option Addr) (c kc : Nat) (q : Nat → K9) (z : Int) (w : World) (hc : c ≤ 1048576) (h0 : 0 < c) (hA : AllKept w ka c q) :
    Calls Tryz.prog 43 #[.slice ka c kc, .int .i64 z] w fun e w' => e = .returned (kpV (q (lastI q z c)).n (q (lastI q z c)).p (q (lastI q z c)).ra (q (lastI q z c)).rs.length (q (lastI q z c)).rc (q (lastI q z c)).oa (q (lastI q z c)).os.length (q (lastI q z c)).oc (q (lastI q z c)).c) ∧ Below w.heap.size w w' := by
  have hc' : (c : Int) ≤ 1048576 := by omega
  have hpos : (0 : Int) < (c : Int) := by omega
  obtain ⟨b, off, rfl, d0, d1, d2, d3, d4⟩ := hA.at h0
  simp only [Nat.zero_mul, Nat.add_zero] at d0 d1 d2 d3 d4
  have zb : b < w.heap.size := World.block_lt_of_cell? w _ d0
  have HA : Hid (AllKept w (some ⟨b, off, none⟩) c q) := hA
  clear hA
  have nb : w.heap.size ≠ b := by omega
  have HL0 : Hid (Lw w ((w.alloc (.cells #[.int .i64 0, .int .i64 0, .slice none 0 0, .slice none 0 0, .int .i64 0] 53)).alloc (.cells #[.int .i64 (q 0).n, .int .i64 (q 0).p, .slice (q 0).ra (q 0).rs.length (q 0).rc, .slice (q 0).oa (q 0).os.length (q 0).oc, .int .i64 (q 0).c] 53)) w.heap.size (q 0)) := by
    have bq := below_alloc (w.alloc (.cells #[.int .i64 0, .int .i64 0, .slice none 0 0, .slice none 0 0, .int .i64 0] 53)) (.cells #[.int .i64 (q 0).n, .int .i64 (q 0).p, .slice (q 0).ra (q 0).rs.length (q 0).rc, .slice (q 0).oa (q 0).os.length (q 0).oc, .int .i64 (q 0).c] 53)
    have n1 := Box5.new (w.alloc (.cells #[.int .i64 0, .int .i64 0, .slice none 0 0, .slice none 0 0, .int .i64 0] 53)) (.int .i64 (q 0).n) (.int .i64 (q 0).p) (.slice (q 0).ra (q 0).rs.length (q 0).rc) (.slice (q 0).oa (q 0).os.length (q 0).oc) (.int .i64 (q 0).c) 53
    have n2 := fun j => new_frozen (w.alloc (.cells #[.int .i64 0, .int .i64 0, .slice none 0 0, .slice none 0 0, .int .i64 0] 53)) #[.int .i64 (q 0).n, .int .i64 (q 0).p, .slice (q 0).ra (q 0).rs.length (q 0).rc, .slice (q 0).oa (q 0).os.length (q 0).oc, .int .i64 (q 0).c] 53 j rfl
    rw [World.size_alloc] at n1 n2
    exact ⟨by go_grown, n1, n2, (Box5.new w _ _ _ _ _ _).below bq, fun j => (World.frozen?_of_block (bq.block w.heap.size (by simp))).trans (new_frozen w _ _ j rfl), rfl⟩
  go_enter Tryz.func43, Tryz.ntmps43
  go_wp2_with fail
  generalize (w.alloc (.cells #[.int .i64 0, .int .i64 0, .slice none 0 0, .slice none 0 0, .int .i64 0] 53)).alloc (.cells #[.int .i64 (q 0).n, .int .i64 (q 0).p, .slice (q 0).ra (q 0).rs.length (q 0).rc, .slice (q 0).oa (q 0).os.length (q 0).oc, .int .i64 (q 0).c] 53) = w1 at *
  clear d0 d1 d2 d3 d4
  go_loopw [13] (fun i wr => ∃ k : Nat, k ≤ c ∧ i = .int .i64 k ∧ Hid (Lw w wr w.heap.size (q (lastI q z k)))) (fun i _ => c - (intOf i).toNat)
  case atStart => exact ⟨0, Nat.zero_le _, rfl, HL0.out⟩
  case round =>
    clear HL0
    obtain ⟨k, hk, rfl, HW⟩ := hrel
    by_cases hlt : k < c
    · have hlt' : (k : Int) < (c : Int) := by omega
      obtain ⟨b1, o1, e1, c0, c1, c2, c3, c4⟩ := (HA.out.below HW.out.be).at hlt
      simp only [Option.some.injEq, Addr.mk.injEq, and_true] at e1
      obtain ⟨rfl, rfl⟩ := e1
      have zw : w.heap.size + 1 < wr.heap.size := World.block_lt_of_cell? wr _ HW.out.lb.1
      have HI : Hid (lastI q z (k + 1) = if (q k).n ≤ z then k else lastI q z k) := rfl
      have HX : Hid (Lw w (wr.alloc (.cells #[.int .i64 (q k).n, .int .i64 (q k).p, .slice (q k).ra (q k).rs.length (q k).rc, .slice (q k).oa (q k).os.length (q k).oc, .int .i64 (q k).c] 53)) w.heap.size (q (lastI q z k))) := HW.out.below (below_alloc _ _)
      have NB : Hid (BoxK (wr.alloc (.cells #[.int .i64 (q k).n, .int .i64 (q k).p, .slice (q k).ra (q k).rs.length (q k).rc, .slice (q k).oa (q k).os.length (q k).oc, .int .i64 (q k).c] 53)) wr.heap.size (q k)) := Box5.new wr _ _ _ _ _ _
      go_upto_region 5 with fail
      generalize wr.alloc (.cells #[.int .i64 (q k).n, .int .i64 (q k).p, .slice (q k).ra (q k).rs.length (q k).rc, .slice (q k).oa (q k).os.length (q k).oc, .int .i64 (q k).c] 53) = w2 at *
      generalize wr.heap.size = M at *
      obtain ⟨n0, n1, n2, n3, n4⟩ := NB.out
      clear c0 c1 c2 c3 c4
      have nM : M ≠ w.heap.size + 1 := by omega
      rcases Bool.eq_false_or_eq_true (decide ((q k).n ≤ z)) with t | t
      · have HI' : Hid (lastI q z (k + 1) = k) := by
          show lastI q z (k + 1) = k
          rw [HI.out, if_pos (of_decide_eq_true t)]
        have HY : Hid (Lw w _ w.heap.size (q k)) := HX.out.put (q k)
        obtain ⟨l0, l1, l2, l3, l4⟩ := HX.out.lb
        have lf := HX.out.lf
        go_wp2
        go_roundw
        case rel => exact ⟨k + 1, by omega, by go_num, by rw [HI'.out]; exact HY.out⟩
        case measure => simp [intOf]; omega
      · have HI' : Hid (lastI q z (k + 1) = lastI q z k) := by
          show lastI q z (k + 1) = lastI q z k
          rw [HI.out, if_neg (of_decide_eq_false t)]
        go_wp2
        go_roundw
        case rel => exact ⟨k + 1, by omega, by go_num, by rw [HI'.out]; exact HX.out⟩
        case measure => simp [intOf]; omega
    · have hkl : k = c := by omega
      subst hkl
      obtain ⟨l0, l1, l2, l3, l4⟩ := HW.out.lb
      obtain ⟨r0, r1, r2, r3, r4⟩ := HW.out.rb
      have rf := HW.out.rf
      have be := HW.out.be
      have nN : w.heap.size + 1 ≠ w.heap.size := by omega
      go_wp2
      refine bodyPost_ret (v := kpV (q (lastI q z k)).n (q (lastI q z k)).p (q (lastI q z k)).ra (q (lastI q z k)).rs.length (q (lastI q z k)).rc (q (lastI q z k)).oa (q (lastI q z k)).os.length (q (lastI q z k)).oc (q (lastI q z k)).c) (by simp [results, Tryz.results43, go_sem, r0, r1, r2, r3, r4]) rfl ⟨rfl, ?_⟩
      exact ((((be.setCell (Nat.le_refl _) _).setCell (Nat.le_refl _) _).setCell (Nat.le_refl _) _).setCell (Nat.le_refl _) _).setCell (Nat.le_refl _) _

end Go.Proofs.YtkoghgnbolaooaaGreat

namespace Go.Proofs.YtkoghgnbolaooaaGreat
open Go

section
variable {P : Program} {ops : Array Oper} {Q : Exit → Act → World → Prop} {md : Region.Mode} {S : World → Prop} {G : Nat → Bool}

/-- Whatever order is picked; S holds behind every operation that is not of G. -/
def wpG (P : Program) (md : Region.Mode) (ops : Array Oper) (Q : Exit → Act → World → Prop) (S : World → Prop) (G : Nat → Bool) : Nat → Array Bool → Act → World → Prop
  | 0, listed, a, w => Region.ready md ops listed = [] ∧ Q .normal a w
  | fuel + 1, listed, a, w => (Region.ready md ops listed = [] → Q .normal a w) ∧ ∀ i ∈ Region.ready md ops listed, wpOp P ops Q i (fun a' w' => (S w → G i = false → S w') ∧ wpG P md ops Q S G fuel (listed.setIfInBounds i true) a' w') a w
theorem wpAny_of_G : ∀ (fuel : Nat) (listed : Array Bool) (a : Act) (w : World), wpG P md ops Q S G fuel listed a w → wpAny P md ops Q fuel listed a w
  | 0, _, _, _, h => h
  | fuel + 1, _, _, _, h => ⟨h.1, fun i hi => wpOp_mono (fun a' w' h' => wpAny_of_G fuel _ a' w' h'.2) (h.2 i hi)⟩

/-- Whatever is of G and has not come up waits for number i. -/
def waitG (md : Region.Mode) (ops : Array Oper) (G : Nat → Bool) (listed : Array Bool) (i : Nat) : Bool :=
  (List.range ops.size).all fun j => !G j || listed.getD j true || match ops[j]? with
    | some oj => oj.after.any fun e => Region.binds md e && e.on == i
    | none => true
theorem waitG_spec {listed : Array Bool} {i : Nat} (h : waitG md ops G listed i = true) {j : Nat} {oj : Oper} (hj : ops[j]? = some oj) (hg : G j = true) (hu : listed.getD j true = false) : ∃ e ∈ oj.after, Region.binds md e = true ∧ e.on = i := by
  simp only [waitG, List.all_eq_true, List.mem_range] at h
  have h1 := h j (Array.getElem?_eq_some_iff.1 hj).1
  simp only [hj, hg, hu, Bool.not_true, Bool.false_or] at h1
  obtain ⟨e, he, hb⟩ := Array.any_eq_true'.1 h1
  simp only [Bool.and_eq_true, beq_iff_eq] at hb
  exact ⟨e, he, hb.1, hb.2⟩

theorem wpG_first {i : Nat} {oi : Oper} {v : Value} (hi : ops[i]? = some oi) (hsel : ∀ (j : Nat) (o : Oper) cs b, ops[j]? = some o → o.op ≠ .select cs b)
    (hQ : ∀ c a w, Q (.panic c) (a.put oi.dst v) w → Q (.panic c) a w) :
    ∀ (fuel : Nat) (listed : Array Bool) (a : Act) (w : World),
      (∀ j oj, ops[j]? = some oj → j ≠ i → listed.getD j true = false → (∀ e ∈ oj.after, Region.binds md e = true → e.on ≠ i) → oi.apart ops oj = true) →
      (∀ j oj, ops[j]? = some oj → G j = true → listed.getD j true = false → ∃ e ∈ oj.after, Region.binds md e = true ∧ e.on = i) →
      i ∈ Region.ready md ops listed → YieldsIf P ops S oi v a → S w →
      wpG P md ops Q S G fuel (listed.setIfInBounds i true) (a.put oi.dst v) w → wpG P md ops Q S G (fuel + 1) listed a w := by
  intro fuel
  induction fuel with
  | zero =>
    intro listed a w _ _ hr hy hS H
    refine ⟨fun h => (by rw [h] at hr; cases hr), fun j hj => ?_⟩
    by_cases hji : j = i
    · subst hji
      exact hy.wpOp hi hS ⟨fun _ _ => hS, H⟩
    · have := ready_mono hj hji
      rw [H.1] at this
      cases this
  | succ fuel ih =>
    intro listed a w hfree hG hr hy hS H
    refine ⟨fun h => (by rw [h] at hr; cases hr), fun j hj => ?_⟩
    by_cases hji : j = i
    · subst hji
      exact hy.wpOp hi hS ⟨fun _ _ => hS, H⟩
    · obtain ⟨hjun, oj, hoj, hall⟩ := mem_ready.1 hj
      have hiun := (mem_ready.1 hr).1
      have hnot : ∀ e ∈ oj.after, Region.binds md e = true → e.on ≠ i := fun e he hb heq => by
        have h1 := hall e he hb
        rw [heq] at h1
        rcases Nat.lt_or_ge i listed.size with h' | h'
        · simp [h'] at hiun h1
          rw [hiun] at h1
          cases h1
        · simp [Array.getElem?_eq_none h'] at h1
      have hGj : G j = false := by
        cases hg : G j with
        | false => rfl
        | true =>
          obtain ⟨e, he, hb, heq⟩ := hG j oj hoj hg hjun
          exact absurd heq (hnot e he hb)
      have h2 := wpOp_putIf hoj (hfree j oj hoj hji hjun hnot) (fun cs b => hsel i oi cs b hi) (fun cs b => hsel j oj cs b hoj) hQ hy (H.2 j (ready_mono hj hji))
      have hun' : ∀ k, (listed.setIfInBounds j true).getD k true = false → listed.getD k true = false := fun k hk => by
        by_cases hjk : j = k
        · subst hjk
          exact hjun
        · rw [_root_.Go.getD_set_ne true hjk] at hk
          exact hk
      refine wpOp_mono (fun a' w' h3 => ⟨h3.2.1, ih (listed.setIfInBounds j true) a' w' (fun k ok hk hki hun hno => hfree k ok hk hki (hun' k hun) hno) (fun k ok hk hg hun => hG k ok hk hg (hun' k hun)) (ready_mono hr (Ne.symm hji)) h3.1 (h3.2.1 hS hGj) ?_⟩) h2
      rw [Array.setIfInBounds_comm _ _ hji]
      exact h3.2.2

/-- What yields in whatever world may be taken first, whoever writes. -/
theorem wpG_firstW {i : Nat} {oi : Oper} {v : Value} (hi : ops[i]? = some oi) (hsel : ∀ (j : Nat) (o : Oper) cs b, ops[j]? = some o → o.op ≠ .select cs b)
    (hQ : ∀ c a w, Q (.panic c) (a.put oi.dst v) w → Q (.panic c) a w) :
    ∀ (fuel : Nat) (listed : Array Bool) (a : Act) (w : World),
      (∀ j oj, ops[j]? = some oj → j ≠ i → listed.getD j true = false → (∀ e ∈ oj.after, Region.binds md e = true → e.on ≠ i) → oi.apart ops oj = true) →
      i ∈ Region.ready md ops listed → YieldsIf P ops (fun _ => True) oi v a →
      wpG P md ops Q S G fuel (listed.setIfInBounds i true) (a.put oi.dst v) w → wpG P md ops Q S G (fuel + 1) listed a w := by
  intro fuel
  induction fuel with
  | zero =>
    intro listed a w _ hr hy H
    refine ⟨fun h => (by rw [h] at hr; cases hr), fun j hj => ?_⟩
    by_cases hji : j = i
    · subst hji
      exact hy.wpOp hi trivial ⟨fun h _ => h, H⟩
    · have := ready_mono hj hji
      rw [H.1] at this
      cases this
  | succ fuel ih =>
    intro listed a w hfree hr hy H
    refine ⟨fun h => (by rw [h] at hr; cases hr), fun j hj => ?_⟩
    by_cases hji : j = i
    · subst hji
      exact hy.wpOp hi trivial ⟨fun h _ => h, H⟩
    · obtain ⟨hjun, oj, hoj, hall⟩ := mem_ready.1 hj
      have hiun := (mem_ready.1 hr).1
      have hnot : ∀ e ∈ oj.after, Region.binds md e = true → e.on ≠ i := fun e he hb heq => by
        have h1 := hall e he hb
        rw [heq] at h1
        rcases Nat.lt_or_ge i listed.size with h' | h'
        · simp [h'] at hiun h1
          rw [hiun] at h1
          cases h1
        · simp [Array.getElem?_eq_none h'] at h1
      have h2 := wpOp_putIf hoj (hfree j oj hoj hji hjun hnot) (fun cs b => hsel i oi cs b hi) (fun cs b => hsel j oj cs b hoj) hQ hy (H.2 j (ready_mono hj hji))
      have hun' : ∀ k, (listed.setIfInBounds j true).getD k true = false → listed.getD k true = false := fun k hk => by
        by_cases hjk : j = k
        · subst hjk
          exact hjun
        · rw [_root_.Go.getD_set_ne true hjk] at hk
          exact hk
      refine wpOp_mono (fun a' w' h3 => ⟨h3.2.1, ih (listed.setIfInBounds j true) a' w' (fun k ok hk hki hun hno => hfree k ok hk hki (hun' k hun) hno) (ready_mono hr (Ne.symm hji)) h3.1 ?_⟩) h2
      rw [Array.setIfInBounds_comm _ _ hji]
      exact h3.2.2
theorem wpG_takeW (i : Nat) {oi : Oper} {fuel : Nat} {listed : Array Bool} {a : Act} {w : World} (hi0 : ops.toList[i]? = some oi) (hs : Region.noSelect ops = true) (hf : Region.free md ops listed i = true) (hr : (Region.ready md ops listed).contains i = true)
    (hQ : ∀ v c a w, Q (.panic c) (a.put oi.dst v) w → Q (.panic c) a w) (hw : Region.wanted oi (yielded ops a.tmps) = true)
    (h : ∃ v, (∀ w, (execOp a.eval oi).run P w = .ok (.value v) w) ∧ wpG P md ops Q S G fuel (listed.setIfInBounds i true) (a.put oi.dst v) w) : wpG P md ops Q S G (fuel + 1) listed a w := by
  obtain ⟨v, hv, h⟩ := h
  have hi : ops[i]? = some oi := by rw [← Array.getElem?_toList]; exact hi0
  exact wpG_firstW hi (Region.noSelect_spec hs) (hQ v) fuel listed a w (Region.free_spec hi hf) (by simpa using hr) (.inl ⟨hw, fun w _ => hv w⟩) h

/-- Take number i first. -/
theorem wpG_take (i : Nat) {oi : Oper} {fuel : Nat} {listed : Array Bool} {a : Act} {w : World} (hi0 : ops.toList[i]? = some oi) (hS : S w)
    (h : ∃ v, (∀ w, S w → (execOp a.eval oi).run P w = .ok (.value v) w) ∧ wpG P md ops Q S G fuel (listed.setIfInBounds i true) (a.put oi.dst v) w) (hs : Region.noSelect ops = true := by kernel_rfl) (hf : Region.free md ops listed i = true := by kernel_rfl) (hr : (Region.ready md ops listed).contains i = true := by kernel_rfl) (hg : waitG md ops G listed i = true := by kernel_rfl)
    (hQ : ∀ v c a w, Q (.panic c) (a.put oi.dst v) w → Q (.panic c) a w := by exact fun _ _ _ _ h => h) (hw : Region.wanted oi (yielded ops a.tmps) = true := by rfl) : wpG P md ops Q S G (fuel + 1) listed a w := by
  obtain ⟨v, hv, h⟩ := h
  have hi : ops[i]? = some oi := by rw [← Array.getElem?_toList]; exact hi0
  exact wpG_first hi (Region.noSelect_spec hs) (hQ v) fuel listed a w (Region.free_spec hi hf) (fun j oj hj hgj hu => waitG_spec hg hj hgj hu) (by simpa using hr) (.inl ⟨hw, hv⟩) hS h
/-- What is not wanted is passed over. -/
theorem wpG_skip (i : Nat) {oi : Oper} {fuel : Nat} {listed : Array Bool} {a : Act} {w : World} (hi0 : ops.toList[i]? = some oi)
    (h : wpG P md ops Q S G fuel (listed.setIfInBounds i true) (a.put oi.dst undef) w) (hs : Region.noSelect ops = true := by kernel_rfl) (hf : Region.free md ops listed i = true := by kernel_rfl) (hr : (Region.ready md ops listed).contains i = true := by kernel_rfl)
    (hQ : ∀ v c a w, Q (.panic c) (a.put oi.dst v) w → Q (.panic c) a w := by exact fun _ _ _ _ h => h) (hw : Region.wanted oi (yielded ops a.tmps) = false := by rfl) : wpG P md ops Q S G (fuel + 1) listed a w := by
  have hi : ops[i]? = some oi := by rw [← Array.getElem?_toList]; exact hi0
  exact wpG_firstW hi (Region.noSelect_spec hs) (hQ undef) fuel listed a w (Region.free_spec hi hf) (by simpa using hr) (.inr ⟨hw, rfl⟩) h
/-- As wpG; the numbers that come next stand by. -/
def wpGT (P : Program) (md : Region.Mode) (ops : Array Oper) (Q : Exit → Act → World → Prop) (S : World → Prop) (G : Nat → Bool) (_ : List Nat) (fuel : Nat) (listed : Array Bool) (a : Act) (w : World) : Prop := wpG P md ops Q S G fuel listed a w
theorem wpGT_of (is : List Nat) {fuel : Nat} {listed : Array Bool} {a : Act} {w : World} (h : wpGT P md ops Q S G is fuel listed a w) : wpG P md ops Q S G fuel listed a w := h
theorem wpGT_nil {fuel : Nat} {listed : Array Bool} {a : Act} {w : World} (h : wpG P md ops Q S G fuel listed a w) : wpGT P md ops Q S G [] fuel listed a w := h
theorem wpGT_take {i : Nat} {is : List Nat} {oi : Oper} {fuel : Nat} {listed : Array Bool} {a : Act} {w : World} (hi0 : ops.toList[i]? = some oi) (hS : S w)
    (h : ∃ v, (∀ w, S w → (execOp a.eval oi).run P w = .ok (.value v) w) ∧ wpGT P md ops Q S G is fuel (listed.setIfInBounds i true) (a.put oi.dst v) w) (hs : Region.noSelect ops = true := by kernel_rfl) (hf : Region.free md ops listed i = true := by kernel_rfl) (hr : (Region.ready md ops listed).contains i = true := by kernel_rfl) (hg : waitG md ops G listed i = true := by kernel_rfl)
    (hQ : ∀ v c a w, Q (.panic c) (a.put oi.dst v) w → Q (.panic c) a w := by exact fun _ _ _ _ h => h) (hw : Region.wanted oi (yielded ops a.tmps) = true := by rfl) : wpGT P md ops Q S G (i :: is) (fuel + 1) listed a w := wpG_take i hi0 hS h hs hf hr hg hQ hw
/-- Number i alone may come up. -/
theorem wpG_one (i : Nat) {oi : Oper} {fuel : Nat} {listed : Array Bool} {a : Act} {w : World} (hi0 : ops.toList[i]? = some oi) (hr : Region.ready md ops listed = [i])
    (h : ∀ K' : Act → World → Prop, Shut (∀ a w, (G i = false → S w) → wpG P md ops Q S G fuel (listed.setIfInBounds i true) a w → K' a w) → if Region.wanted oi (yielded ops a.tmps) = true then Oper.wp P oi a w K' Q else K' (a.put oi.dst undef) w) : wpG P md ops Q S G (fuel + 1) listed a w :=
  ⟨fun h0 => (by rw [hr] at h0; cases h0), fun j hj => by
    rw [hr] at hj
    obtain rfl := List.mem_singleton.1 hj
    have hi : ops[j]? = some oi := by rw [← Array.getElem?_toList]; exact hi0
    exact wpOp_step hi fun K' hK => h K' fun a w h1 h2 => hK a w ⟨fun _ => h1, h2⟩⟩
/-- Either of two may come up. -/
theorem wpG_two (i j : Nat) {oi oj : Oper} {fuel : Nat} {listed : Array Bool} {a : Act} {w : World} (hi0 : ops.toList[i]? = some oi) (hj0 : ops.toList[j]? = some oj) (hr : Region.ready md ops listed = [i, j])
    (h : ∀ K' : Act → World → Prop, Shut (∀ a w, (G i = false → S w) → wpG P md ops Q S G fuel (listed.setIfInBounds i true) a w → K' a w) → if Region.wanted oi (yielded ops a.tmps) = true then Oper.wp P oi a w K' Q else K' (a.put oi.dst undef) w)
    (h' : ∀ K' : Act → World → Prop, Shut (∀ a w, (G j = false → S w) → wpG P md ops Q S G fuel (listed.setIfInBounds j true) a w → K' a w) → if Region.wanted oj (yielded ops a.tmps) = true then Oper.wp P oj a w K' Q else K' (a.put oj.dst undef) w) : wpG P md ops Q S G (fuel + 1) listed a w :=
  ⟨fun h0 => (by rw [hr] at h0; cases h0), fun k hk => by
    rw [hr] at hk
    have hi : ops[i]? = some oi := by rw [← Array.getElem?_toList]; exact hi0
    have hj : ops[j]? = some oj := by rw [← Array.getElem?_toList]; exact hj0
    rcases List.mem_cons.1 hk with rfl | hk
    · exact wpOp_step hi fun K' hK => h K' fun a w h1 h2 => hK a w ⟨fun _ => h1, h2⟩
    · obtain rfl := List.mem_singleton.1 hk
      exact wpOp_step hj fun K' hK => h' K' fun a w h1 h2 => hK a w ⟨fun _ => h1, h2⟩⟩
theorem wpG_done {listed : Array Bool} {a : Act} {w : World} (hr : Region.ready md ops listed = []) (h : Q .normal a w) : ∀ fuel, wpG P md ops Q S G fuel listed a w
  | 0 => ⟨hr, h⟩
  | _ + 1 => ⟨fun _ => h, by rw [hr]; simp⟩
theorem wp_region_G {id : Nat} {a : Act} {w : World} (S : World → Prop) (G : Nat → Bool) (hm : P.follows .mixedOrders = true) (h : wpG P .any ops Q S G ops.size (Array.replicate ops.size false) a w.drew) : (Code.region id ops true).wp P Q a w :=
  wp_region_any hm (wpAny_of_G _ _ _ _ h)
end
/-- A call that is wanted, by its contract, as one step of a region that draws. -/
theorem stepR_callD {ops : Array Oper} {o : Oper} {a : Act} {w : World} {K : Act → World → Prop} {Q : Exit → Act → World → Prop} {E : Prop} (hw : Region.wanted o (yielded ops a.tmps) = true) (f : FuncId) (args : Array Operand) (ts : Array TypeId)
    (ho : o.op = .call { callee := .value (.func f), args := args, argTypes := ts }) (vals : Array Value) (hv : args.map a.eval = vals) (hen : ∀ vs wx, (callFunc f vs).run Tryz.prog wx = .ok (.enter f vs) wx) {post : Ending → World → Prop} (hc : Calls Tryz.prog f vals w post)
    (h : ∀ e w', post e w' → ∃ v, e = .returned v ∧ K (a.put o.dst v) w') :
    if Region.wanted o (yielded ops a.tmps) = true then Oper.wp Tryz.prog o a w K Q else E := by
  rw [if_pos hw]
  have hr : (execOp a.eval o).run Tryz.prog w = .ok (.enter f vals) w := by
    unfold execOp
    simp [ho, resolve, invoke, hv, hen, Act.eval, Deferred.ofValue]
  unfold Oper.wp
  rw [hr, Oper.upon_enter]
  refine hc.mono fun e w' hp => ?_
  obtain ⟨v, rfl, hk⟩ := h e w' hp
  exact hk

end Go.Proofs.YtkoghgnbolaooaaGreat

namespace Go.Proofs.YtkoghgnbolaooaaGreat
open Go.ChangeShapes Go.WideShapes Go.ChangeAt Go.RowKit Go.Deep
/-- Between the rounds of marking states. -/
structure MkS (w wr : World) (D j : Nat) (vs : Nat → Value) : Prop where
  tch : Touch (fun b => b = D ∨ ∃ t, t < j ∧ hasBlock (vs t) b) w wr
  cel : ∀ i, j * 4 ≤ i → wr.cell? ⟨D, i, none⟩ = w.cell? ⟨D, i, none⟩
  fr : ∀ i, wr.frozen? ⟨D, i, none⟩ = false

end Go.Proofs.YtkoghgnbolaooaaGreat

namespace Go.Proofs.YtkoghgnbolaooaaGreat
open Go.ChangeShapes Go.WideShapes Go.ChangeAt Go.RowKit Go.Deep

set_option maxRecDepth 100000 in
theorem open_stateCells {H : Type} {enc : TypeId × Value → H} {w : World} {base fuel : Nat} {held : Bool} {c0 c1 c2 c3 : Value} {x : DataW H × List MemPlace}
    (hf' : DataW.trod enc Tryz.prog w base (fun _ => true) held fuel 72 [c0, c1, c2, c3] = some x) :
    ∃ q : St8, (c0 = .int .i64 q.p ∧ c1 = .slice q.ra q.rs.length q.rc ∧ c2 = .slice q.oa q.os.length q.oc ∧ c3 = .int .i64 q.c) ∧ (q.rs.length ≤ maxLen ∧ q.os.length ≤ maxLen) ∧ Sl w q.ra q.rs ∧ Sl w q.oa q.os := by
  obtain ⟨xs, m, -, -, -, hl, hx⟩ := DataW.trod_struct Tryz.underlying72 hf'
  have hl : xs.length = 4 := hl
  have q0 : DataW.trod enc Tryz.prog w base (fun _ => true) held m 3 [c0] = xs[0]? := by simpa [cellsInt] using hx 0 _ rfl
  have q1 : DataW.trod enc Tryz.prog w base (fun _ => true) held m 41 [c1] = xs[1]? := by simpa [cellsInts] using hx 1 _ rfl
  have q2 : DataW.trod enc Tryz.prog w base (fun _ => true) held m 41 [c2] = xs[2]? := by simpa [cellsInts] using hx 2 _ rfl
  have q3 : DataW.trod enc Tryz.prog w base (fun _ => true) held m 3 [c3] = xs[3]? := by simpa [cellsInt] using hx 3 _ rfl
  rw [List.getElem?_eq_getElem (by omega)] at q0 q1 q2 q3
  obtain ⟨z0, e0, -, -⟩ := DataW.trod_int Tryz.underlying3 q0
  obtain ⟨z3, e3, -, -⟩ := DataW.trod_int Tryz.underlying3 q3
  obtain ⟨ra, rc, rs, rfl, hr, h1⟩ := open_intRow q1
  obtain ⟨oa, oc, os, rfl, ho, h2⟩ := open_intRow q2
  simp only [List.cons.injEq, and_true] at e0 e3
  subst e0 e3
  exact ⟨⟨z0, ra, rc, rs, oa, oc, os, z3⟩, ⟨rfl, rfl, rfl, rfl⟩, ⟨hr, ho⟩, h1, h2⟩

end Go.Proofs.YtkoghgnbolaooaaGreat

namespace Go.Proofs.YtkoghgnbolaooaaGreat
open Go.ChangeShapes Go.WideShapes Go.ChangeAt Go.RowKit Go.Deep

theorem cellsLawKept : Tryz.prog.cellsOf 74 = 5 := by kernel_rfl
set_option maxRecDepth 100000 in
theorem open_keptCells {H : Type} {enc : TypeId × Value → H} {w : World} {base fuel : Nat} {held : Bool} {c0 c1 c2 c3 c4 : Value} {x : DataW H × List MemPlace}
    (hf' : DataW.trod enc Tryz.prog w base (fun _ => true) held fuel 74 [c0, c1, c2, c3, c4] = some x) :
    ∃ q : K9, (c0 = .int .i64 q.n ∧ c1 = .int .i64 q.p ∧ c2 = .slice q.ra q.rs.length q.rc ∧ c3 = .slice q.oa q.os.length q.oc ∧ c4 = .int .i64 q.c) ∧ (q.rs.length ≤ maxLen ∧ q.os.length ≤ maxLen ∧ (Lit.int .i64 q.n).wf = true) ∧ Sl w q.ra q.rs ∧ Sl w q.oa q.os := by
  obtain ⟨xs, m, -, -, -, hl, hx⟩ := DataW.trod_struct Tryz.underlying74 hf'
  have hl : xs.length = 2 := hl
  have q0 : DataW.trod enc Tryz.prog w base (fun _ => true) held m 3 [c0] = xs[0]? := by simpa [cellsInt] using hx 0 _ rfl
  have q1 : DataW.trod enc Tryz.prog w base (fun _ => true) held m 72 [c1, c2, c3, c4] = xs[1]? := by simpa [cellsLawState] using hx 1 _ rfl
  rw [List.getElem?_eq_getElem (by omega)] at q0 q1
  obtain ⟨z0, e0, -, hw⟩ := DataW.trod_int Tryz.underlying3 q0
  obtain ⟨q, ⟨rfl, rfl, rfl, rfl⟩, hb, hs⟩ := open_stateCells q1
  simp only [List.cons.injEq, and_true] at e0
  subst e0
  exact ⟨⟨q, z0⟩, ⟨rfl, rfl, rfl, rfl, rfl⟩, ⟨hb.1, hb.2, hw⟩, hs⟩

theorem open_KeptS {H : Type} {enc : TypeId × Value → H} {w : World} {held : Bool} {base : Nat} {a0 : Option Addr} {len cap : Nat} {d : DataW H} {p : List MemPlace}
    (h : DataW.Trod enc Tryz.prog w base (fun _ => true) held 39 (.slice a0 len cap) d p) :
    len ≤ maxLen ∧ ∃ q, AllKept w a0 len q ∧ (∀ i, i < len → (q i).rs.length ≤ maxLen ∧ (q i).os.length ≤ maxLen) ∧ ∀ i, i < len → (Lit.int .i64 (q i).n).wf = true := by
  obtain ⟨fuel, hf⟩ := h
  have inh : Inhabited K9 := ⟨⟨⟨0, none, 0, [], none, 0, [], 0⟩, 0⟩⟩
  rcases Go.Deep.open_slice Tryz.underlying39 hf with ⟨hcs, _⟩ | ⟨a, len', cap', m, n, D, Pl, hcs, _, hl, hm, hmm, _, hx⟩
  · simp [Value.cells] at hcs
    obtain ⟨_, rfl, _⟩ := hcs
    exact ⟨Nat.zero_le _, fun _ => default, ⟨.inl rfl, fun i hi => by omega⟩, fun i hi => by omega, fun i hi => by omega⟩
  · simp [Value.cells] at hcs
    obtain ⟨rfl, rfl, rfl⟩ := hcs
    refine ⟨Nat.le_trans hl hm, ?_⟩
    have hle : len ≤ m := by rw [hmm]; split <;> omega
    rw [cellsLawKept] at hx
    obtain ⟨b, off, spot⟩ := a
    have hcell : ∀ i, i < len → ∃ q : K9, (w.cell? (Addr.add (Addr.add ⟨b, off, spot⟩ (i * 5)) 0) = some (.int .i64 q.n) ∧ w.cell? (Addr.add (Addr.add ⟨b, off, spot⟩ (i * 5)) 1) = some (.int .i64 q.p) ∧ w.cell? (Addr.add (Addr.add ⟨b, off, spot⟩ (i * 5)) 2) = some (.slice q.ra q.rs.length q.rc) ∧ w.cell? (Addr.add (Addr.add ⟨b, off, spot⟩ (i * 5)) 3) = some (.slice q.oa q.os.length q.oc) ∧ w.cell? (Addr.add (Addr.add ⟨b, off, spot⟩ (i * 5)) 4) = some (.int .i64 q.c)) ∧ (q.rs.length ≤ maxLen ∧ q.os.length ≤ maxLen ∧ (Lit.int .i64 q.n).wf = true) ∧ Sl w q.ra q.rs ∧ Sl w q.oa q.os := by
      intro i hi
      obtain ⟨cs', h1, h2⟩ := hx i (by omega)
      obtain ⟨_, hlen, hc⟩ := World.cells?_some h1
      match cs', hlen with
      | [c0, c1, c2, c3, c4], _ =>
        obtain ⟨q, ⟨rfl, rfl, rfl, rfl, rfl⟩, hb, hs⟩ := open_keptCells h2
        exact ⟨q, ⟨hc 0 (by omega), hc 1 (by omega), hc 2 (by omega), hc 3 (by omega), hc 4 (by omega)⟩, hb, hs⟩
    obtain ⟨g, hg⟩ := Go.Deep.choose_lt (α := K9) hcell
    refine ⟨g, ⟨?_, fun i hi => (hg i hi).2.2⟩, fun i hi => ⟨(hg i hi).2.1.1, (hg i hi).2.1.2.1⟩, fun i hi => (hg i hi).2.1.2.2⟩
    by_cases h0 : len = 0
    · exact .inl h0
    have hspot : spot = none := by
      have hx0 := (hg 0 (by omega)).1.1
      simpa [Addr.add] using World.cell?_spot hx0
    subst hspot
    have hI : ∀ i, i < len → w.cell? ⟨b, off + i * 5, none⟩ = some (.int .i64 (g i).n) ∧ w.cell? ⟨b, off + i * 5 + 1, none⟩ = some (.int .i64 (g i).p) ∧ w.cell? ⟨b, off + i * 5 + 2, none⟩ = some (.slice (g i).ra (g i).rs.length (g i).rc) ∧ w.cell? ⟨b, off + i * 5 + 3, none⟩ = some (.slice (g i).oa (g i).os.length (g i).oc) ∧ w.cell? ⟨b, off + i * 5 + 4, none⟩ = some (.int .i64 (g i).c) := by
      intro i hi
      obtain ⟨⟨q0, q1, q2, q3, q4⟩, -⟩ := hg i hi
      rw [addr_addO, addr_addO] at q0 q1 q2 q3 q4
      exact ⟨q0, q1, q2, q3, q4⟩
    exact .inr ⟨b, off, rfl, cell_lt (hI 0 (by omega)).1, hI⟩

end Go.Proofs.YtkoghgnbolaooaaGreat

namespace Go.Proofs.YtkoghgnbolaooaaGreat
open Go.ChangeShapes Go.WideShapes Go.ChangeAt Go.RowKit

/-- What the model told stands in block N; nothing old has turned. -/
structure Rx (w wi : World) (B C N : Nat) (ra : Option Addr) (rc : Nat) (oa : Option Addr) (oc : Nat) (S : S4) : Prop where
  be : Below w.heap.size w wi
  tl : Tl wi B C N S.p S.c ra S.rs.length rc oa S.os.length oc S.rs S.os
theorem Rx.below {w wi w' : World} {B C N : Nat} {ra : Option Addr} {rc : Nat} {oa : Option Addr} {oc : Nat} {S : S4} (h : Rx w wi B C N ra rc oa oc S) (hb : Below wi.heap.size wi w') : Rx w w' B C N ra rc oa oc S := ⟨h.be.trans (hb.mono h.be.size), h.tl.below hb⟩
theorem Rx.tu {w wi w' : World} {B C N lo hi : Nat} {ra : Option Addr} {rc : Nat} {oa : Option Addr} {oc : Nat} {S : S4} (h : Rx w wi B C N ra rc oa oc S) (t : Tu lo hi wi w') (h1 : w.heap.size ≤ lo) (h2 : C ≤ lo ∨ hi ≤ B) : Rx w w' B C N ra rc oa oc S := ⟨h.be.trans (t.below h.be.size h1), h.tl.tu t h2⟩
/-- A list of places, or of events, of the law's own, that may be written. -/
structure Ix (w : World) (b len : Nat) (g : Nat → I5) : Prop where
  at' : InsAt w b 0 len g
  fr : ∀ j, w.frozen? ⟨b, j, none⟩ = false
  lt : b < w.heap.size
theorem Ix.below {w w' : World} {b len : Nat} {g : Nat → I5} (h : Ix w b len g) (hb : Below w.heap.size w w') : Ix w' b len g := ⟨h.at'.below hb h.lt, fun j => (World.frozen?_of_block (hb.block _ h.lt)).trans (h.fr j), Nat.lt_of_lt_of_le h.lt hb.size⟩
structure Ex (w : World) (b len : Nat) (g : Nat → E3) : Prop where
  at' : EvAt w b 0 len g
  fr : ∀ j, w.frozen? ⟨b, j, none⟩ = false
  lt : b < w.heap.size
theorem Ex.below {w w' : World} {b len : Nat} {g : Nat → E3} (h : Ex w b len g) (hb : Below w.heap.size w w') : Ex w' b len g := ⟨h.at'.below hb h.lt, fun j => (World.frozen?_of_block (hb.block _ h.lt)).trans (h.fr j), Nat.lt_of_lt_of_le h.lt hb.size⟩
theorem Ex.tu {w w' : World} {b len lo hi : Nat} {g : Nat → E3} (h : Ex w b len g) (t : Tu lo hi w w') (hd : b < lo ∨ hi ≤ b) : Ex w' b len g := by
  have hb := t.block b h.lt hd
  refine ⟨fun i hi => ?_, fun j => (World.frozen?_of_block hb).trans (h.fr j), Nat.lt_of_lt_of_le h.lt t.size⟩
  obtain ⟨h0, h1, h2⟩ := h.at' i hi
  exact ⟨(World.cell?_of_block hb).trans h0, (World.cell?_of_block hb).trans h1, (World.cell?_of_block hb).trans h2⟩

end Go.Proofs.YtkoghgnbolaooaaGreat
