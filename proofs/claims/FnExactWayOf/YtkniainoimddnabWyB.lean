/- Marks on items. -/
import Derived.Test.YtkniainoimddnabWyA
namespace Go.Proofs.Ytkniainoimddnab
open Go.ChangeShapes Go.WideShapes Go.ChangeAt Go.RowKit Go.Deep

set_option maxRecDepth 100000 in
set_option maxHeartbeats 1000000 in
theorem markItemS_own (b len cap : Nat) (k : Int) (w : World) (hlen : len ≤ 1048576) (k0 : 0 ≤ k) (k1 : k ≤ 100000000) (h : RoomT w b len) :
    Calls Try.prog 12 #[.slice (some ⟨b, 0, none⟩) len cap, .int .i64 k] w fun e w' => e = .returned (.int .i64 (k + 2 * len)) ∧ w.grownBy w' (some b) ∧ ItAt w' b 0 len (markI k) := by
  have hl' : (len : Int) ≤ 1048576 := by omega
  have HO : Hid (RoomT w b len) := h
  clear h
  go_enter Try.func12, Try.ntmps12
  go_wp2_with fail
  go_loopw [1, 5] (fun q i wr => ∃ j : Nat, j ≤ len ∧ i = .int .i64 j ∧ q = .int .i64 (k + 2 * j) ∧ Hid (RoomT wr b len ∧ w.grownBy wr (some b) ∧ ItAt wr b 0 j (markI k))) (fun _ i _ => len - (intOf i).toNat)
  case atStart => exact ⟨0, Nat.zero_le _, rfl, by simp, HO.out, World.grownBy.refl _ _, fun i hi => by omega⟩
  case round =>
    clear HO
    obtain ⟨j, hj, rfl, rfl, HR⟩ := hrel
    by_cases hlt : j < len
    · have hlt' : (j : Int) < (len : Int) := by omega
      obtain ⟨u0, c0⟩ := HR.out.1.1 (j * 2) (by omega)
      obtain ⟨u1, c1⟩ := HR.out.1.1 (j * 2 + 1) (by omega)
      have fz := HR.out.1.2
      go_wp2
      go_roundw
      case rel =>
        refine ⟨j + 1, by omega, by go_num, by go_num, ?_⟩
        have hc : ∀ (o : Nat) (u : Value) (W : World) (t : Nat), o ≠ t → (W.setCell ⟨b, o, none⟩ u).cell? ⟨b, t, none⟩ = W.cell? ⟨b, t, none⟩ := fun o u W t hne => World.cell?_setCell_other _ _ _ _ fun e => hne (by injection e)
        refine ⟨?_, ?_, fun i hi => ?_⟩
        · repeat (refine RoomT.set ?_ _ _)
          exact HR.out.1
        · repeat (refine grown_setCell ?_ (.inl rfl) _)
          exact HR.out.2.1
        · rw [Nat.zero_add]
          by_cases e : i = j
          · subst e
            refine ⟨?_, ?_⟩
            · rw [hc _ _ _ _ (by omega)]
              exact World.cell?_setCell_same _ _ _ c0
            · exact World.cell?_setCell_same _ _ _ ((hc _ _ _ _ (by omega)).trans c1)
          · obtain ⟨d0, d1⟩ := HR.out.2.2 i (by omega)
            rw [Nat.zero_add] at d0 d1
            exact ⟨(hc _ _ _ _ (by omega)).trans ((hc _ _ _ _ (by omega)).trans d0), (hc _ _ _ _ (by omega)).trans ((hc _ _ _ _ (by omega)).trans d1)⟩
      case measure => simp [intOf]; omega
    · have hlt' : ¬ (j : Int) < (len : Int) := by omega
      have hjl : j = len := by omega
      subst hjl
      have HF : Hid (w.grownBy wr (some b) ∧ ItAt wr b 0 j (markI k)) := HR.out.2
      clear HR
      go_wp2
      go_ret
      exact ⟨rfl, HF.out⟩

set_option maxRecDepth 100000 in
set_option maxHeartbeats 1000000 in
theorem heldItemS_marks (b len cap : Nat) (k : Int) (w : World) (hlen : len ≤ 1048576) (k0 : 0 ≤ k) (k1 : k ≤ 100000000) (h : ItAt w b 0 len (markI k)) :
    Calls Try.prog 13 #[.slice (some ⟨b, 0, none⟩) len cap, .int .i64 k] w fun e w' => e = .returned (.int .i64 (k + 2 * len)) ∧ Below w.heap.size w w' := by
  have hl' : (len : Int) ≤ 1048576 := by omega
  have HO : Hid (ItAt w b 0 len (markI k)) := h
  clear h
  go_enter Try.func13, Try.ntmps13
  go_wp2_with fail
  go_loopw [1, 5] (fun q i wr => ∃ j : Nat, j ≤ len ∧ i = .int .i64 j ∧ q = .int .i64 (k + 2 * j) ∧ Below w.heap.size w wr) (fun _ i _ => len - (intOf i).toNat)
  case atStart => exact ⟨0, Nat.zero_le _, rfl, by simp, Below.refl _ _⟩
  case round =>
    obtain ⟨j, hj, rfl, rfl, hbw⟩ := hrel
    by_cases hlt : j < len
    · have hlt' : (j : Int) < (len : Int) := by omega
      obtain ⟨c0, c1⟩ := HO.out j hlt
      rw [Nat.zero_add] at c0 c1
      have hb : b < w.heap.size := cell_lt c0
      have c0' : wr.cell? ⟨b, j * 2, none⟩ = some (.bool ((k + 2 * (j : Int)) % 3 == 0)) := (hbw.cell (p := ⟨b, j * 2, none⟩) hb).trans c0
      have c1' : wr.cell? ⟨b, j * 2 + 1, none⟩ = some (.int .i64 (k + 2 * (j : Int) + 1)) := (hbw.cell (p := ⟨b, j * 2 + 1, none⟩) hb).trans c1
      clear c0 c1 hb
      rcases Bool.eq_false_or_eq_true ((k + 2 * (j : Int)) % 3 == 0) with t | t
      · rw [t] at c0'
        go_wp2_with fail
        exact ⟨⟨j + 1, by omega, by go_num, by go_num, hbw⟩, by simp [intOf]; omega⟩
      · rw [t] at c0'
        go_wp2_with fail
        exact ⟨⟨j + 1, by omega, by go_num, by go_num, hbw⟩, by simp [intOf]; omega⟩
    · have hlt' : ¬ (j : Int) < (len : Int) := by omega
      have hjl : j = len := by omega
      subst hjl
      go_wp2
      go_ret
      exact ⟨rfl, hbw⟩

end Go.Proofs.Ytkniainoimddnab
