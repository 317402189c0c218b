/- The walk of the program's Replay. -/
import Derived.Test.YtcmmlklanjhfoaaGreatDoorGa34
import Derived.Test.YtcmmlklanjhfoaaGreatDoorGa16
import Derived.Lib.QuietBelow
import Derived.Test.YtcmmlklanjhfoaaGreatDoorGa36
import Derived.Test.YtcmmlklanjhfoaaGreatDoorGa38
namespace Go.Proofs.YtcmmlklanjhfoaaGreatDoor
open Go.ChangeShapes Go.WideShapes Go.ChangeAt Go.RowKit Go.Deep Go.Sort

set_option maxRecDepth 100000 in
set_option maxHeartbeats 1000000 in
theorem sameInts_same (a0 a1 : Option Addr) (c0 c1 : Nat) (xs : List Int) (w : World) (hlen : xs.length ≤ 1048576) (h0 : Sl w a0 xs) (h1 : Sl w a1 xs) :
    Calls Tryz.prog 29 #[.slice a0 xs.length c0, .slice a1 xs.length c1] w fun e w' => e = .returned (.bool true) ∧ Below w.heap.size w w' := by
  have hl' : (xs.length : Int) ≤ 1048576 := by omega
  have H0 : Hid (Sl w a0 xs) := h0
  have H1 : Hid (Sl w a1 xs) := h1
  clear h0 h1
  go_enter Tryz.func29, Tryz.ntmps29
  go_wp2_with fail
  go_loopw [5] (fun i wr => ∃ k : Nat, k ≤ xs.length ∧ i = .int .i64 k ∧ Below w.heap.size w wr) (fun i _ => xs.length - (intOf i).toNat)
  case atStart => exact ⟨0, Nat.zero_le _, rfl, Below.refl _ _⟩
  case round =>
    obtain ⟨k, hk, rfl, hbw⟩ := hrel
    by_cases hlt : k < xs.length
    · obtain ⟨b, off, rfl, hbl, ck⟩ := (H0.out.below hbw).at hlt
      obtain ⟨b', off', rfl, hbl', ck'⟩ := (H1.out.below hbw).at hlt
      have hlt' : (k : Int) < (xs.length : Int) := by omega
      go_wp2_with fail
      go_quiet (fail)
      go_wp2
      go_roundw
      case rel => exact ⟨k + 1, by omega, by go_num, below_drewN hbw _⟩
      case measure => simp [intOf]; omega
    · go_wp2
      go_ret
      exact ⟨rfl, hbw⟩

set_option maxHeartbeats 400000 in
theorem big_any (a0 : Option Addr) (len cap : Nat) (w : World) :
    Calls Tryz.prog 5 #[.slice a0 len cap] w fun e w' => e = .returned (.bool (decide ((1048576 : Int) < len))) ∧ w' = w := by
  go_enter Tryz.func5, Tryz.ntmps5
  go_wp2
  go_ret
  exact ⟨rfl, rfl⟩

/-- Bytes that came in: as many as an int can count, each in memory that was there. -/
theorem open_bytes {H : Type} {enc : TypeId × Value → H} {w : World} {a0 : Option Addr} {len cap : Nat} {d : DataW H} {p : List MemPlace}
    (h : DataW.Trod enc Tryz.prog w 0 (fun _ => true) true 22 (.slice a0 len cap) d p) : len ≤ maxLen ∧ BytesAt w w.heap.size a0 len := by
  obtain ⟨fuel, hf⟩ := h
  rcases open_ints Tryz.underlying22 Tryz.underlying5 (by kernel_rfl) hf with ⟨hcs, _⟩ | ⟨x, l, c, zs, hcs, _, hl, hm, hz, _, hcell, hwz⟩
  · simp [Value.cells] at hcs
    obtain ⟨_, rfl, _⟩ := hcs
    exact ⟨Nat.zero_le _, .inl rfl⟩
  · simp [Value.cells] at hcs
    obtain ⟨rfl, rfl, rfl⟩ := hcs
    refine ⟨Nat.le_trans hl hm, ?_⟩
    by_cases h0 : len = 0
    · exact .inl h0
    right
    have hz' : zs.length = cap := by simpa using hz
    obtain ⟨b, off, rfl, hc⟩ := ints_at hcell (by omega)
    refine ⟨b, off, rfl, cell_lt (hc 0 (by omega)), fun j hj => ⟨zs.getD j 0, hc j (by omega), ?_⟩⟩
    have hmem : zs.getD j 0 ∈ zs := by
      rw [List.getD_eq_getElem?_getD, List.getElem?_eq_getElem (by omega)]
      exact List.getElem_mem _
    exact bounds_u8 (hwz _ hmem)

set_option maxRecDepth 100000 in
set_option maxHeartbeats 4000000 in
theorem sameState_same (p code : Int) (ra oa ra' oa' : Option Addr) (rc oc rc' oc' : Nat) (rs os : List Int) (w : World) (hr : rs.length ≤ 1048576) (ho : os.length ≤ 1048576) (h1 : Sl w ra rs) (h2 : Sl w oa os) (h1' : Sl w ra' rs) (h2' : Sl w oa' os) :
    Calls Tryz.prog 12 #[stV p ra rs.length rc oa os.length oc code, stV p ra' rs.length rc' oa' os.length oc' code] w fun e w' => e = .returned (.bool true) ∧ Below w.heap.size w w' := by
  have H1 : Hid (Sl w ra rs) := h1
  have H2 : Hid (Sl w oa os) := h2
  have H1' : Hid (Sl w ra' rs) := h1'
  have H2' : Hid (Sl w oa' os) := h2'
  clear h1 h2 h1' h2'
  go_enter Tryz.func12, Tryz.ntmps12
  go_wp2_with fail
  refine (sameInts_same ra ra' rc rc' rs _ hr (H1.out.below (by go_grown)) (H1'.out.below (by go_grown))).mono ?_
  rintro e w1 ⟨rfl, b1⟩
  have B1 : Hid (Below w.heap.size w w1) := below_up (by go_grown) b1 (by simp; omega)
  obtain ⟨hc1, hf1⟩ := bcell b1
  have l0 : w.heap.size < w.heap.size + 1 + 1 := by omega
  have l1 : w.heap.size + 1 < w.heap.size + 1 + 1 := by omega
  have k0 : w1.cell? ⟨w.heap.size, 2, none⟩ = some (.slice oa os.length oc) := (hc1 w.heap.size 2 (by simp; omega)).trans ((old_cell _ _ (by simp)).trans (new_cell _ _ _ 2 rfl))
  have k1 : w1.cell? ⟨w.heap.size + 1, 2, none⟩ = some (.slice oa' os.length oc') := (hc1 (w.heap.size + 1) 2 (by simp)).trans (new_cellB _ _ _ 2 (by simp))
  clear b1 hc1 hf1
  go_wp2_with fail
  refine (sameInts_same oa oa' oc oc' os _ ho (H2.out.below B1.out) (H2'.out.below B1.out)).mono ?_
  rintro e w2 ⟨rfl, b2⟩
  have B2 : Hid (Below w.heap.size w w2) := B1.out.trans (b2.mono B1.out.size)
  clear b2
  go_wp2
  go_ret
  exact ⟨rfl, B2.out⟩

end Go.Proofs.YtcmmlklanjhfoaaGreatDoor

namespace Go.Proofs.YtcmmlklanjhfoaaGreatDoor
open Go.RowKit Go.Sort

set_option maxRecDepth 100000 in
set_option maxHeartbeats 4000000 in
theorem implReplay_l (gb n gc : Nat) (ea : Option Addr) (m ec : Nat) (g : Nat → I5) (eh : Nat → E3) (w : World) (hn : n ≤ maxLen) (hg : gb < w.heap.size) (hI : InsAt w gb 0 n g) (hE : EvL w ea m eh) (hm : m ≤ 1048576) (hV : w.cell? ⟨0, 0, none⟩ = some (.iface 120 (.agg #[.pointer (some ⟨1, 50, none⟩)]))) :
    Calls Tryz.prog 9 #[.slice (some ⟨gb, 0, none⟩) n gc, .slice ea m ec] w (DoneR w (resS (repO g n eh m)) (repO g n eh m).isSome) := by
  have HI : Hid (InsAt w gb 0 n g) := hI
  have HE : Hid (EvL w ea m eh) := hE
  have HL : Hid (n ≤ maxLen) := hn
  have HV : Hid (w.cell? ⟨0, 0, none⟩ = some (.iface 120 (.agg #[.pointer (some ⟨1, 50, none⟩)]))) := hV
  have hV0 : 0 < w.heap.size := World.block_lt_of_cell? w _ hV
  clear hI hE hn hV
  have bA := below_alloc w (.cells #[.int .i64 0, .slice none 0 0, .slice none 0 0, .int .i64 0] 32)
  have BA : Hid (Below w.heap.size w (w.alloc (.cells #[.int .i64 0, .slice none 0 0, .slice none 0 0, .int .i64 0] 32))) := bA
  have NB : Hid (BoxC (w.alloc (.cells #[.int .i64 0, .slice none 0 0, .slice none 0 0, .int .i64 0] 32)) w.heap.size (.int .i64 0) (.slice none 0 0) (.slice none 0 0) (.int .i64 0) ∧ ∀ j, (w.alloc (.cells #[.int .i64 0, .slice none 0 0, .slice none 0 0, .int .i64 0] 32)).frozen? ⟨w.heap.size, j, none⟩ = false) := ⟨BoxC.new w _ _ _ _ _, fun j => new_frozen _ _ _ j rfl⟩
  clear bA
  have hrun : ∀ wx : World, Below w.heap.size w wx → Calls Tryz.prog 22 #[.slice (some ⟨gb, 0, none⟩) n gc, .slice ea m ec] wx (AllR wx (repO g n eh m)) := by
    intro wx hb
    rcases Bool.eq_false_or_eq_true (progOkB g n 4) with tp | tp
    · exact runAll_yes gb n gc ea m ec g eh wx HL.out (Nat.lt_of_lt_of_le hg hb.size) (HI.out.below hb hg) tp (HE.out.below hb) hm
    · exact runAll_no gb n gc ea m ec g eh wx HL.out (Nat.lt_of_lt_of_le hg hb.size) (HI.out.below hb hg) tp
  have HRn : Hid (∀ wx : World, Below w.heap.size w wx → Calls Tryz.prog 22 #[.slice (some ⟨gb, 0, none⟩) n gc, .slice ea m ec] wx (AllR wx (repO g n eh m))) := hrun
  clear hrun
  generalize repO g n eh m = O at *
  go_enter Tryz.func9, Tryz.ntmps9
  go_wp2_with fail
  have hz : (w.alloc (.cells #[.int .i64 0, .slice none 0 0, .slice none 0 0, .int .i64 0] 32)).heap.size = w.heap.size + 1 := by simp
  generalize w.alloc (.cells #[.int .i64 0, .slice none 0 0, .slice none 0 0, .int .i64 0] 32) = wa at *
  refine (HRn.out wa BA.out).mono ?_
  rintro e w1 ⟨v1, err, rfl, b1, o1, hO⟩
  obtain ⟨ra1, rc1, oa1, oc1, rfl, -, -⟩ := o1.read
  have B1 : Hid (Below w.heap.size w w1) := BA.out.trans (b1.mono BA.out.size)
  have N1 : Hid (BoxC w1 w.heap.size (.int .i64 0) (.slice none 0 0) (.slice none 0 0) (.int .i64 0) ∧ ∀ j, w1.frozen? ⟨w.heap.size, j, none⟩ = false) := ⟨NB.out.1.below b1, fun j => (World.frozen?_of_block (b1.block w.heap.size (by omega))).trans (NB.out.2 j)⟩
  have O1 : Hid (StOwn w1 wa.heap.size (stV (resS O).p ra1 (resS O).rs.length rc1 oa1 (resS O).os.length oc1 (resS O).c) (resS O).p (resS O).rs (resS O).os (resS O).c) := o1
  have z1 := b1.size
  have zw : w.heap.size < w1.heap.size := by omega
  clear o1 b1 BA NB
  have bq0 := below_alloc w1 (.cells #[.int .i64 (resS O).p, .slice ra1 (resS O).rs.length rc1, .slice oa1 (resS O).os.length oc1, .int .i64 (resS O).c] 32)
  have bq1 := below_alloc (w1.alloc (.cells #[.int .i64 (resS O).p, .slice ra1 (resS O).rs.length rc1, .slice oa1 (resS O).os.length oc1, .int .i64 (resS O).c] 32)) (.cells #[.int .i64 0] 54)
  have bq : Below w1.heap.size w1 ((w1.alloc (.cells #[.int .i64 (resS O).p, .slice ra1 (resS O).rs.length rc1, .slice oa1 (resS O).os.length oc1, .int .i64 (resS O).c] 32)).alloc (.cells #[.int .i64 0] 54)) := bq0.trans (bq1.mono bq0.size)
  have BQ : Hid (Below w.heap.size w ((w1.alloc (.cells #[.int .i64 (resS O).p, .slice ra1 (resS O).rs.length rc1, .slice oa1 (resS O).os.length oc1, .int .i64 (resS O).c] 32)).alloc (.cells #[.int .i64 0] 54))) := B1.out.trans (bq.mono B1.out.size)
  have NQ : Hid (BoxC ((w1.alloc (.cells #[.int .i64 (resS O).p, .slice ra1 (resS O).rs.length rc1, .slice oa1 (resS O).os.length oc1, .int .i64 (resS O).c] 32)).alloc (.cells #[.int .i64 0] 54)) w.heap.size (.int .i64 0) (.slice none 0 0) (.slice none 0 0) (.int .i64 0) ∧ ∀ j, ((w1.alloc (.cells #[.int .i64 (resS O).p, .slice ra1 (resS O).rs.length rc1, .slice oa1 (resS O).os.length oc1, .int .i64 (resS O).c] 32)).alloc (.cells #[.int .i64 0] 54)).frozen? ⟨w.heap.size, j, none⟩ = false) := ⟨N1.out.1.below bq, fun j => (World.frozen?_of_block (bq.block w.heap.size zw)).trans (N1.out.2 j)⟩
  have OQ : Hid (StOwn ((w1.alloc (.cells #[.int .i64 (resS O).p, .slice ra1 (resS O).rs.length rc1, .slice oa1 (resS O).os.length oc1, .int .i64 (resS O).c] 32)).alloc (.cells #[.int .i64 0] 54)) wa.heap.size (stV (resS O).p ra1 (resS O).rs.length rc1 oa1 (resS O).os.length oc1 (resS O).c) (resS O).p (resS O).rs (resS O).os (resS O).c) := O1.out.below bq
  have SQ : Hid (BoxC ((w1.alloc (.cells #[.int .i64 (resS O).p, .slice ra1 (resS O).rs.length rc1, .slice oa1 (resS O).os.length oc1, .int .i64 (resS O).c] 32)).alloc (.cells #[.int .i64 0] 54)) w1.heap.size (.int .i64 (resS O).p) (.slice ra1 (resS O).rs.length rc1) (.slice oa1 (resS O).os.length oc1) (.int .i64 (resS O).c)) := (BoxC.new w1 _ _ _ _ _).below bq1
  have TQ : Hid (((w1.alloc (.cells #[.int .i64 (resS O).p, .slice ra1 (resS O).rs.length rc1, .slice oa1 (resS O).os.length oc1, .int .i64 (resS O).c] 32)).alloc (.cells #[.int .i64 0] 54)).cell? ⟨w1.heap.size + 1, 0, none⟩ = some (.int .i64 0) ∧ ((w1.alloc (.cells #[.int .i64 (resS O).p, .slice ra1 (resS O).rs.length rc1, .slice oa1 (resS O).os.length oc1, .int .i64 (resS O).c] 32)).alloc (.cells #[.int .i64 0] 54)).frozen? ⟨w1.heap.size + 1, 0, none⟩ = false ∧ w1.heap.size + 2 = ((w1.alloc (.cells #[.int .i64 (resS O).p, .slice ra1 (resS O).rs.length rc1, .slice oa1 (resS O).os.length oc1, .int .i64 (resS O).c] 32)).alloc (.cells #[.int .i64 0] 54)).heap.size) := by
    have h1 := new_cell (w1.alloc (.cells #[.int .i64 (resS O).p, .slice ra1 (resS O).rs.length rc1, .slice oa1 (resS O).os.length oc1, .int .i64 (resS O).c] 32)) #[.int .i64 0] 54 0 rfl
    have h2 := new_frozen (w1.alloc (.cells #[.int .i64 (resS O).p, .slice ra1 (resS O).rs.length rc1, .slice oa1 (resS O).os.length oc1, .int .i64 (resS O).c] 32)) #[.int .i64 0] 54 0 rfl
    rw [World.size_alloc] at h1 h2
    exact ⟨h1, h2, by simp⟩
  clear bq0 bq1 bq N1 O1 B1
  rcases hO with ⟨tO, rfl⟩ | ⟨tO, x, rfl⟩
  · have HT : Hid (O.isSome = true) := tO
    clear tO
    go_wp2_with fail
    generalize (w1.alloc (.cells #[.int .i64 (resS O).p, .slice ra1 (resS O).rs.length rc1, .slice oa1 (resS O).os.length oc1, .int .i64 (resS O).c] 32)).alloc (.cells #[.int .i64 0] 54) = wq at *
    refine (as_nil _ wq).mono ?_
    rintro e w2 ⟨rfl, rfl⟩
    obtain ⟨⟨r0, r1, r2, r3⟩, rf⟩ := NQ.out
    obtain ⟨s0, s1, s2, s3⟩ := SQ.out
    have hne : w1.heap.size ≠ w.heap.size := by omega
    go_wp2
    refine bodyPost_ret (v := .tuple #[stV (resS O).p ra1 (resS O).rs.length rc1 oa1 (resS O).os.length oc1 (resS O).c, .bool true]) (by simp [results, Tryz.results9, go_sem, r0, r1, r2, r3]) rfl ?_
    rw [HT.out]
    refine ⟨_, rfl, ?_, ?_⟩
    · exact OQ.out.put4 (by omega) (by omega)
    · exact (((BQ.out.setCell (Nat.le_refl _) _).setCell (Nat.le_refl _) _).setCell (Nat.le_refl _) _).setCell (Nat.le_refl _) _
  · have HT : Hid (O = none) := by
      cases O with
      | none => rfl
      | some S => cases tO
    clear tO
    go_wp2_with fail
    generalize (w1.alloc (.cells #[.int .i64 (resS O).p, .slice ra1 (resS O).rs.length rc1, .slice oa1 (resS O).os.length oc1, .int .i64 (resS O).c] 32)).alloc (.cells #[.int .i64 0] 54) = wq at *
    refine (as_hit x ⟨w1.heap.size + 1, 0, none⟩ (.int .i64 0) wq ((BQ.out.cell (p := ⟨0, 0, none⟩) hV0).trans HV.out) TQ.out.1 TQ.out.2.1).mono ?_
    rintro e w2 ⟨rfl, o1, o2, o3, o4, rfl⟩
    have b2 : Below (w1.heap.size + 1) wq (((((wq.alloc o1).alloc o2).alloc o3).alloc o4).setCell ⟨w1.heap.size + 1, 0, none⟩ (.int .i64 x)) := by
      have hq := TQ.out.2.2
      exact (((((Below.refl (w1.heap.size + 1) wq).alloc (by omega) o1).alloc (by simp; omega) o2).alloc (by simp; omega) o3).alloc (by simp; omega) o4).setCell (Nat.le_refl _) _
    have eR := b2.block w.heap.size (by omega)
    have B2 : Hid (Below w.heap.size w (((((wq.alloc o1).alloc o2).alloc o3).alloc o4).setCell ⟨w1.heap.size + 1, 0, none⟩ (.int .i64 x))) := BQ.out.trans (b2.mono (by omega))
    have N2 : Hid (BoxC (((((wq.alloc o1).alloc o2).alloc o3).alloc o4).setCell ⟨w1.heap.size + 1, 0, none⟩ (.int .i64 x)) w.heap.size (.int .i64 0) (.slice none 0 0) (.slice none 0 0) (.int .i64 0) ∧ ∀ j, (((((wq.alloc o1).alloc o2).alloc o3).alloc o4).setCell ⟨w1.heap.size + 1, 0, none⟩ (.int .i64 x)).frozen? ⟨w.heap.size, j, none⟩ = false) := by
      obtain ⟨⟨a0, a1, a2, a3⟩, af⟩ := NQ.out
      exact ⟨⟨(World.cell?_of_block eR).trans a0, (World.cell?_of_block eR).trans a1, (World.cell?_of_block eR).trans a2, (World.cell?_of_block eR).trans a3⟩, fun j => (World.frozen?_of_block eR).trans (af j)⟩
    clear b2 eR NQ SQ OQ TQ BQ
    generalize ((((wq.alloc o1).alloc o2).alloc o3).alloc o4).setCell ⟨w1.heap.size + 1, 0, none⟩ (.int .i64 x) = w3 at *
    obtain ⟨⟨r0, r1, r2, r3⟩, rf⟩ := N2.out
    go_wp2
    refine bodyPost_ret (v := .tuple #[stV 0 none 0 0 none 0 0 0, .bool false]) (by simp [results, Tryz.results9, go_sem, r0, r1, r2, r3]) rfl ?_
    rw [HT.out]
    exact ⟨_, rfl, StOwn.nil _ _, (((B2.out.setCell (Nat.le_refl _) _).setCell (Nat.le_refl _) _).setCell (Nat.le_refl _) _).setCell (Nat.le_refl _) _⟩

theorem implReplay_any (gb n gc eb eo m ec : Nat) (g : Nat → I5) (eh : Nat → E3) (w : World) (hn : n ≤ maxLen) (hg : gb < w.heap.size) (hI : InsAt w gb 0 n g) (he : eb < w.heap.size) (hE : EvAt w eb eo m eh) (hm : m ≤ 1048576) (hV : w.cell? ⟨0, 0, none⟩ = some (.iface 120 (.agg #[.pointer (some ⟨1, 50, none⟩)]))) :
    Calls Tryz.prog 9 #[.slice (some ⟨gb, 0, none⟩) n gc, .slice (some ⟨eb, eo, none⟩) m ec] w (DoneR w (resS (repO g n eh m)) (repO g n eh m).isSome) :=
  implReplay_l gb n gc _ m ec g eh w hn hg hI (.inr ⟨eb, eo, rfl, he, hE⟩) hm hV

end Go.Proofs.YtcmmlklanjhfoaaGreatDoor
