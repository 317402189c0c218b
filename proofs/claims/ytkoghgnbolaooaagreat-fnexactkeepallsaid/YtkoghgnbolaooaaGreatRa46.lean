/- The walk of the program's thin: of the kept states each eighth stays. -/
import Derived.Test.YtkoghgnbolaooaaGreatRa36
import Derived.Maps.RangeWalk
namespace Go.Proofs.YtkoghgnbolaooaaGreat
open Go.RowKit Go.Sort Go.Maps

/-- As Sto, but only the numbers j with p j are there. -/
structure StoP (w : World) (b T m : Nat) (g : Nat → I5) (n : Nat) (eh : Nat → E3) (V : Nat → Value) (D : DataW Value) (p : Int → Bool) : Prop where
  own : w.ownsMap Tryz.prog 3 RV b (m + 1) D
  key : ∀ j : Int, Maps.has D (.int .i64 j) = (decide (0 ≤ j ∧ j ≤ m) && p j)
  val : ∀ j : Nat, j ≤ m → p j = true → ∀ z, D.atKey (.int .i64 j) z = .held (V j)
  st : ∀ j, j ≤ m → ∃ S, rp g n eh j = some S ∧ StOwn w T (V j) S.p S.rs S.os S.c
  bT : b < T

theorem sameKey_int (i j : Int) : (Lit.int .i64 i).sameKey (.int .i64 j) = decide (i = j) := by
  by_cases e : i = j
  · subst e
    rw [WideAt.sameKey_self (keyI i)]
    simp
  · rw [Maps.sameKey_ne (fun h => e (by injection h))]
    simp [e]

set_option maxRecDepth 100000 in
set_option maxHeartbeats 2000000 in
theorem thin_any (b T m n : Nat) (g : Nat → I5) (eh : Nat → E3) (V : Nat → Value) (D : DataW Value) (w : World) (hS : Sto w b T m g n eh V D) :
    Calls Tryz.prog 29 #[.map (some b)] w fun e w' => e = .returned (.tuple #[]) ∧ (∃ D', StoP w' b T m g n eh V D' (fun j => decide (j % 8 = 0))) ∧ w.grownBy w' (some b) := by
  obtain ⟨w0, hrn, hrg0, hg0, hs0⟩ := hS.own.range kInt Tryz.underlying63
  have HS : Hid (Sto w b T m g n eh V D) := hS
  have hb : b < w.heap.size := hS.own.lt
  have HR0 : Hid (w0.ranges Tryz.prog 3 RV b w.heap.size (m + 1) D (Maps.has D) (Maps.size D) ∧ w.grownBy w0 (some b)) := ⟨hrg0, hg0.but _⟩
  clear hS hrg0 hg0 hs0
  go_enter Tryz.func29, Tryz.ntmps29
  go_wp2_with fail
  clear hrn
  go_loopw [2] (fun _ wr => ∃ (D' : DataW Value) (left : Lit → Bool) (cnt : Nat), wr.ranges Tryz.prog 3 RV b w.heap.size (m + 1) D' left cnt ∧ Hid (w.grownBy wr (some b)) ∧ Hid ((∀ j : Int, Maps.has D' (.int .i64 j) = (decide (0 ≤ j ∧ j ≤ m) && (decide (j % 8 = 0) || left (.int .i64 j)))) ∧ ∀ j : Nat, Maps.has D' (.int .i64 j) = true → ∀ z, D'.atKey (.int .i64 j) z = .held (V j))) (fun _ wr => wr.rangeLeft b w.heap.size)
  case atStart =>
    refine ⟨D, Maps.has D, Maps.size D, HR0.out.1, HR0.out.2, fun j => ?_, fun j hj => ?_⟩
    · rw [HS.out.key]
      cases decide (0 ≤ j ∧ j ≤ (m : Int)) <;> simp
    · rw [HS.out.key] at hj
      have := of_decide_eq_true hj
      exact HS.out.val j (by omega)
  case round =>
    clear HR0
    obtain ⟨D', left, cnt, hrg, HG, HK⟩ := hrel
    rcases hrg.next kInt 0 with ⟨h0, hl, hrun⟩ | ⟨key, v, kl, y, w1, cnt1, hkey, hlk, hv, hat, hrun, hrg1, hlt, hg1, hs1, hen⟩
    · have HF : Hid ((∃ D', StoP wr b T m g n eh V D' (fun j => decide (j % 8 = 0))) ∧ w.grownBy wr (some b)) := by
        refine ⟨⟨D', hrg.owns, fun j => ?_, fun j hj hp z => ?_, fun j hj => ?_, HS.out.bT⟩, HG.out⟩
        · rw [HK.out.1 j, hl]
          simp
        · refine HK.out.2 j ?_ z
          rw [HK.out.1, hp, decide_eq_true (by omega)]
          rfl
        · obtain ⟨S, e1, o⟩ := HS.out.st j hj
          refine ⟨S, e1, o.blk fun i hi => HG.out.block i (o.lt hi).2 fun e => ?_⟩
          have h1 := (o.lt hi).1
          have h2 := HS.out.bT
          injection e with e
          omega
      clear hrg HG HK
      go_wp2
      go_end0
      exact ⟨rfl, HF.out.1, HF.out.2⟩
    · obtain ⟨x, rfl, rfl, hwf⟩ := Maps.keyOf_int_inv Tryz.underlying3 hkey
      have hr2 : w.heap.size < wr.heap.size := hrg.lt
      have HG1 : Hid (w.grownBy w1 (some b)) := HG.out.andThen hg1 (fun j hj => .inl (by injection hj with hj; omega))
      have HLft : Hid (wr.rangeLeft b w.heap.size = cnt) := hrg.left_eq
      have hhx : Maps.has D' (.int .i64 x) = true := by
        rw [HK.out.1 x, hlk]
        have : Maps.has D' (.int .i64 x) = true := has_true_of_atKey hat
        rw [HK.out.1 x] at this
        cases hd : decide (0 ≤ x ∧ x ≤ (m : Int))
        · rw [hd] at this
          simp at this
        · simp
      have hx0 : 0 ≤ x ∧ x ≤ (m : Int) := by
        rw [HK.out.1 x] at hhx
        have := (Bool.and_eq_true _ _ ▸ hhx).1
        exact of_decide_eq_true this
      clear hg1 hs1 hrg HG
      rcases Bool.eq_false_or_eq_true (x % 8 != 0) with t | t
      · have HRG1 : Hid (w1.ranges Tryz.prog 3 RV b w.heap.size (m + 1) D' (fun z => left z && !z.sameKey (.int .i64 x)) cnt1) := hrg1
        have HLT : Hid (cnt1 < cnt) := hlt
        have HT : Hid (x % 8 ≠ 0) := by
          show x % 8 ≠ 0
          simpa using t
        clear hrg1 hlt hat hhx hv hlk
        go_wp2_with (at_delete; refine wpList_delete_ranges _ rfl _ _ 63 3 rfl 43 kInt Tryz.underlying63 RV b w.heap.size (m + 1) D' _ cnt1 rfl HRG1.out _ _ rfl hkey ?_; intro w2 cnt2 hrg2 hle htn; rw [strike_twice] at hrg2; have HN : Hid (w2.ranges Tryz.prog 3 RV b w.heap.size (m + 1) (D'.del (.int .i64 x)) (fun z => left z && !z.sameKey (.int .i64 x)) cnt2 ∧ cnt2 ≤ cnt1 ∧ w.grownBy w2 (some b)) := ⟨hrg2, hle, HG1.out.andThen htn.grown (fun j hj => .inr hj)⟩; clear hrg2 hle htn; go_frame)
        have HM : Hid (w2.rangeLeft b w.heap.size < wr.rangeLeft b w.heap.size ∧ (∀ j : Int, Maps.has (D'.del (.int .i64 x)) (.int .i64 j) = (decide (0 ≤ j ∧ j ≤ m) && (decide (j % 8 = 0) || (left (.int .i64 j) && !(Lit.int .i64 j).sameKey (.int .i64 x))))) ∧ ∀ j : Nat, Maps.has (D'.del (.int .i64 x)) (.int .i64 j) = true → ∀ z, (D'.del (.int .i64 x)).atKey (.int .i64 j) z = .held (V j)) := by
          refine ⟨?_, fun j => ?_, fun j hj z => ?_⟩
          · rw [HN.out.1.left_eq, HLft.out]
            have := HLT.out
            have := HN.out.2.1
            omega
          · rw [sameKey_int]
            by_cases e : j = x
            · subst e
              rw [has_del_same, decide_eq_false HT.out]
              simp
            · rw [has_del_other (fun h => e (by injection h)), HK.out.1]
              simp [e]
          · by_cases e : (j : Int) = x
            · rw [e, has_del_same] at hj
              cases hj
            · rw [has_del_other (fun h => e (by injection h))] at hj
              rw [atKey_del_other (fun h => e (by injection h))]
              exact HK.out.2 j hj z
        go_roundw
        case rel => exact ⟨_, _, _, HN.out.1, HN.out.2.2, HM.out.2⟩
        case measure => exact HM.out.1
      · have HN : Hid (w1.ranges Tryz.prog 3 RV b w.heap.size (m + 1) D' (fun z => left z && !z.sameKey (.int .i64 x)) cnt1 ∧ w.grownBy w1 (some b) ∧ ((∀ j : Int, Maps.has D' (.int .i64 j) = (decide (0 ≤ j ∧ j ≤ m) && (decide (j % 8 = 0) || (left (.int .i64 j) && !(Lit.int .i64 j).sameKey (.int .i64 x))))) ∧ ∀ j : Nat, Maps.has D' (.int .i64 j) = true → ∀ z, D'.atKey (.int .i64 j) z = .held (V j)) ∧ w1.rangeLeft b w.heap.size < wr.rangeLeft b w.heap.size) := by
          refine ⟨hrg1, HG1.out, ⟨fun j => ?_, HK.out.2⟩, ?_⟩
          · rw [sameKey_int, HK.out.1]
            by_cases e : j = x
            · subst e
              have : decide (j % 8 = 0) = true := decide_eq_true (by simpa using t)
              rw [this]
              simp
            · simp [e]
          · rw [hrg1.left_eq, HLft.out]
            exact hlt
        clear hrg1 HK HG1 hlt hat hhx hkey hv hlk
        go_wp2
        go_roundw
        case rel => exact ⟨_, _, _, HN.out.1, HN.out.2.1, HN.out.2.2.1⟩
        case measure => exact HN.out.2.2.2

end Go.Proofs.YtkoghgnbolaooaaGreat
