/- The walk of the program's Replay. -/
import Derived.Test.YtkpbdcahpkpobaaGreatDoorT44
import Derived.Test.YtkpbdcahpkpobaaGreatDoorT47
namespace Go.Proofs.YtkpbdcahpkpobaaGreatDoor
open Go.RowKit Go.Sort

set_option maxRecDepth 100000 in
set_option maxHeartbeats 4000000 in
theorem implReplay_l (gb n gc : Nat) (ea : Option Addr) (m ec : Nat) (g : Nat → I5) (eh : Nat → E3) (w : World) (hn : n ≤ maxLen) (hg : gb < w.heap.size) (hI : InsAt w gb 0 n g) (hE : EvL w ea m eh) (hm : m ≤ 1048576) (hV : w.cell? ⟨0, 0, none⟩ = some (.iface 190 (.agg #[.pointer (some ⟨1, 83, none⟩)]))) :
    Calls Tryz.prog 11 #[.slice (some ⟨gb, 0, none⟩) n gc, .slice ea m ec] w (DoneR w (resS (repO g n eh m)) (repO g n eh m).isSome) := by
  have HI : Hid (InsAt w gb 0 n g) := hI
  have HE : Hid (EvL w ea m eh) := hE
  have HL : Hid (n ≤ maxLen) := hn
  have HV : Hid (w.cell? ⟨0, 0, none⟩ = some (.iface 190 (.agg #[.pointer (some ⟨1, 83, none⟩)]))) := hV
  have hV0 : 0 < w.heap.size := World.block_lt_of_cell? w _ hV
  clear hI hE hn hV
  have bA := below_alloc w (.cells #[.int .i64 0, .slice none 0 0, .slice none 0 0, .int .i64 0] 30)
  have BA : Hid (Below w.heap.size w (w.alloc (.cells #[.int .i64 0, .slice none 0 0, .slice none 0 0, .int .i64 0] 30))) := bA
  have NB : Hid (BoxC (w.alloc (.cells #[.int .i64 0, .slice none 0 0, .slice none 0 0, .int .i64 0] 30)) w.heap.size (.int .i64 0) (.slice none 0 0) (.slice none 0 0) (.int .i64 0) ∧ ∀ j, (w.alloc (.cells #[.int .i64 0, .slice none 0 0, .slice none 0 0, .int .i64 0] 30)).frozen? ⟨w.heap.size, j, none⟩ = false) := ⟨BoxC.new w _ _ _ _ _, fun j => new_frozen _ _ _ j rfl⟩
  clear bA
  have hrun : ∀ wx : World, Below w.heap.size w wx → Calls Tryz.prog 58 #[.slice (some ⟨gb, 0, none⟩) n gc, .slice ea m ec] wx (AllR wx (repO g n eh m)) := by
    intro wx hb
    rcases Bool.eq_false_or_eq_true (progOkB g n 4) with tp | tp
    · exact runAll_yes gb n gc ea m ec g eh wx HL.out (Nat.lt_of_lt_of_le hg hb.size) (HI.out.below hb hg) tp (HE.out.below hb) hm
    · exact runAll_no gb n gc ea m ec g eh wx HL.out (Nat.lt_of_lt_of_le hg hb.size) (HI.out.below hb hg) tp
  have HRn : Hid (∀ wx : World, Below w.heap.size w wx → Calls Tryz.prog 58 #[.slice (some ⟨gb, 0, none⟩) n gc, .slice ea m ec] wx (AllR wx (repO g n eh m))) := hrun
  clear hrun
  generalize repO g n eh m = O at *
  go_enter Tryz.func11, Tryz.ntmps11
  go_wp2_with fail
  have hz : (w.alloc (.cells #[.int .i64 0, .slice none 0 0, .slice none 0 0, .int .i64 0] 30)).heap.size = w.heap.size + 1 := by simp
  generalize w.alloc (.cells #[.int .i64 0, .slice none 0 0, .slice none 0 0, .int .i64 0] 30) = wa at *
  refine (HRn.out wa BA.out).mono ?_
  rintro e w1 ⟨v1, err, rfl, b1, o1, hO⟩
  obtain ⟨ra1, rc1, oa1, oc1, rfl, -, -⟩ := o1.read
  have B1 : Hid (Below w.heap.size w w1) := BA.out.trans (b1.mono BA.out.size)
  have N1 : Hid (BoxC w1 w.heap.size (.int .i64 0) (.slice none 0 0) (.slice none 0 0) (.int .i64 0) ∧ ∀ j, w1.frozen? ⟨w.heap.size, j, none⟩ = false) := ⟨NB.out.1.below b1, fun j => (World.frozen?_of_block (b1.block w.heap.size (by omega))).trans (NB.out.2 j)⟩
  have O1 : Hid (StOwn w1 wa.heap.size (stV (resS O).p ra1 (resS O).rs.length rc1 oa1 (resS O).os.length oc1 (resS O).c) (resS O).p (resS O).rs (resS O).os (resS O).c) := o1
  have z1 := b1.size
  have zw : w.heap.size < w1.heap.size := by omega
  clear o1 b1 BA NB
  have bq0 := below_alloc w1 (.cells #[.int .i64 (resS O).p, .slice ra1 (resS O).rs.length rc1, .slice oa1 (resS O).os.length oc1, .int .i64 (resS O).c] 30)
  have bq1 := below_alloc (w1.alloc (.cells #[.int .i64 (resS O).p, .slice ra1 (resS O).rs.length rc1, .slice oa1 (resS O).os.length oc1, .int .i64 (resS O).c] 30)) (.cells #[.int .i64 0] 87)
  have bq : Below w1.heap.size w1 ((w1.alloc (.cells #[.int .i64 (resS O).p, .slice ra1 (resS O).rs.length rc1, .slice oa1 (resS O).os.length oc1, .int .i64 (resS O).c] 30)).alloc (.cells #[.int .i64 0] 87)) := bq0.trans (bq1.mono bq0.size)
  have BQ : Hid (Below w.heap.size w ((w1.alloc (.cells #[.int .i64 (resS O).p, .slice ra1 (resS O).rs.length rc1, .slice oa1 (resS O).os.length oc1, .int .i64 (resS O).c] 30)).alloc (.cells #[.int .i64 0] 87))) := B1.out.trans (bq.mono B1.out.size)
  have NQ : Hid (BoxC ((w1.alloc (.cells #[.int .i64 (resS O).p, .slice ra1 (resS O).rs.length rc1, .slice oa1 (resS O).os.length oc1, .int .i64 (resS O).c] 30)).alloc (.cells #[.int .i64 0] 87)) w.heap.size (.int .i64 0) (.slice none 0 0) (.slice none 0 0) (.int .i64 0) ∧ ∀ j, ((w1.alloc (.cells #[.int .i64 (resS O).p, .slice ra1 (resS O).rs.length rc1, .slice oa1 (resS O).os.length oc1, .int .i64 (resS O).c] 30)).alloc (.cells #[.int .i64 0] 87)).frozen? ⟨w.heap.size, j, none⟩ = false) := ⟨N1.out.1.below bq, fun j => (World.frozen?_of_block (bq.block w.heap.size zw)).trans (N1.out.2 j)⟩
  have OQ : Hid (StOwn ((w1.alloc (.cells #[.int .i64 (resS O).p, .slice ra1 (resS O).rs.length rc1, .slice oa1 (resS O).os.length oc1, .int .i64 (resS O).c] 30)).alloc (.cells #[.int .i64 0] 87)) wa.heap.size (stV (resS O).p ra1 (resS O).rs.length rc1 oa1 (resS O).os.length oc1 (resS O).c) (resS O).p (resS O).rs (resS O).os (resS O).c) := O1.out.below bq
  have SQ : Hid (BoxC ((w1.alloc (.cells #[.int .i64 (resS O).p, .slice ra1 (resS O).rs.length rc1, .slice oa1 (resS O).os.length oc1, .int .i64 (resS O).c] 30)).alloc (.cells #[.int .i64 0] 87)) w1.heap.size (.int .i64 (resS O).p) (.slice ra1 (resS O).rs.length rc1) (.slice oa1 (resS O).os.length oc1) (.int .i64 (resS O).c)) := (BoxC.new w1 _ _ _ _ _).below bq1
  have TQ : Hid (((w1.alloc (.cells #[.int .i64 (resS O).p, .slice ra1 (resS O).rs.length rc1, .slice oa1 (resS O).os.length oc1, .int .i64 (resS O).c] 30)).alloc (.cells #[.int .i64 0] 87)).cell? ⟨w1.heap.size + 1, 0, none⟩ = some (.int .i64 0) ∧ ((w1.alloc (.cells #[.int .i64 (resS O).p, .slice ra1 (resS O).rs.length rc1, .slice oa1 (resS O).os.length oc1, .int .i64 (resS O).c] 30)).alloc (.cells #[.int .i64 0] 87)).frozen? ⟨w1.heap.size + 1, 0, none⟩ = false ∧ w1.heap.size + 2 = ((w1.alloc (.cells #[.int .i64 (resS O).p, .slice ra1 (resS O).rs.length rc1, .slice oa1 (resS O).os.length oc1, .int .i64 (resS O).c] 30)).alloc (.cells #[.int .i64 0] 87)).heap.size) := by
    have h1 := new_cell (w1.alloc (.cells #[.int .i64 (resS O).p, .slice ra1 (resS O).rs.length rc1, .slice oa1 (resS O).os.length oc1, .int .i64 (resS O).c] 30)) #[.int .i64 0] 87 0 rfl
    have h2 := new_frozen (w1.alloc (.cells #[.int .i64 (resS O).p, .slice ra1 (resS O).rs.length rc1, .slice oa1 (resS O).os.length oc1, .int .i64 (resS O).c] 30)) #[.int .i64 0] 87 0 rfl
    rw [World.size_alloc] at h1 h2
    exact ⟨h1, h2, by simp⟩
  clear bq0 bq1 bq N1 O1 B1
  rcases hO with ⟨tO, rfl⟩ | ⟨tO, x, rfl⟩
  · have HT : Hid (O.isSome = true) := tO
    clear tO
    go_wp2_with fail
    generalize (w1.alloc (.cells #[.int .i64 (resS O).p, .slice ra1 (resS O).rs.length rc1, .slice oa1 (resS O).os.length oc1, .int .i64 (resS O).c] 30)).alloc (.cells #[.int .i64 0] 87) = wq at *
    refine (as_nil _ wq).mono ?_
    rintro e w2 ⟨rfl, rfl⟩
    obtain ⟨⟨r0, r1, r2, r3⟩, rf⟩ := NQ.out
    obtain ⟨s0, s1, s2, s3⟩ := SQ.out
    have hne : w1.heap.size ≠ w.heap.size := by omega
    go_wp2
    refine bodyPost_ret (v := .tuple #[stV (resS O).p ra1 (resS O).rs.length rc1 oa1 (resS O).os.length oc1 (resS O).c, .bool true]) (by simp [results, Tryz.results11, go_sem, r0, r1, r2, r3]) rfl ?_
    rw [HT.out]
    refine ⟨_, rfl, ?_, ?_⟩
    · exact OQ.out.put4 (by omega) (by omega)
    · exact (((BQ.out.setCell (Nat.le_refl _) _).setCell (Nat.le_refl _) _).setCell (Nat.le_refl _) _).setCell (Nat.le_refl _) _
  · have HT : Hid (O = none) := by
      cases O with
      | none => rfl
      | some S => cases tO
    clear tO
    go_wp2_with fail
    generalize (w1.alloc (.cells #[.int .i64 (resS O).p, .slice ra1 (resS O).rs.length rc1, .slice oa1 (resS O).os.length oc1, .int .i64 (resS O).c] 30)).alloc (.cells #[.int .i64 0] 87) = wq at *
    refine (as_hit x ⟨w1.heap.size + 1, 0, none⟩ (.int .i64 0) wq ((BQ.out.cell (p := ⟨0, 0, none⟩) hV0).trans HV.out) TQ.out.1 TQ.out.2.1).mono ?_
    rintro e w2 ⟨rfl, o1, o2, o3, o4, rfl⟩
    have b2 : Below (w1.heap.size + 1) wq (((((wq.alloc o1).alloc o2).alloc o3).alloc o4).setCell ⟨w1.heap.size + 1, 0, none⟩ (.int .i64 x)) := by
      have hq := TQ.out.2.2
      exact (((((Below.refl (w1.heap.size + 1) wq).alloc (by omega) o1).alloc (by simp; omega) o2).alloc (by simp; omega) o3).alloc (by simp; omega) o4).setCell (Nat.le_refl _) _
    have eR := b2.block w.heap.size (by omega)
    have B2 : Hid (Below w.heap.size w (((((wq.alloc o1).alloc o2).alloc o3).alloc o4).setCell ⟨w1.heap.size + 1, 0, none⟩ (.int .i64 x))) := BQ.out.trans (b2.mono (by omega))
    have N2 : Hid (BoxC (((((wq.alloc o1).alloc o2).alloc o3).alloc o4).setCell ⟨w1.heap.size + 1, 0, none⟩ (.int .i64 x)) w.heap.size (.int .i64 0) (.slice none 0 0) (.slice none 0 0) (.int .i64 0) ∧ ∀ j, (((((wq.alloc o1).alloc o2).alloc o3).alloc o4).setCell ⟨w1.heap.size + 1, 0, none⟩ (.int .i64 x)).frozen? ⟨w.heap.size, j, none⟩ = false) := by
      obtain ⟨⟨a0, a1, a2, a3⟩, af⟩ := NQ.out
      exact ⟨⟨(World.cell?_of_block eR).trans a0, (World.cell?_of_block eR).trans a1, (World.cell?_of_block eR).trans a2, (World.cell?_of_block eR).trans a3⟩, fun j => (World.frozen?_of_block eR).trans (af j)⟩
    clear b2 eR NQ SQ OQ TQ BQ
    generalize ((((wq.alloc o1).alloc o2).alloc o3).alloc o4).setCell ⟨w1.heap.size + 1, 0, none⟩ (.int .i64 x) = w3 at *
    obtain ⟨⟨r0, r1, r2, r3⟩, rf⟩ := N2.out
    go_wp2
    refine bodyPost_ret (v := .tuple #[stV 0 none 0 0 none 0 0 0, .bool false]) (by simp [results, Tryz.results11, go_sem, r0, r1, r2, r3]) rfl ?_
    rw [HT.out]
    exact ⟨_, rfl, StOwn.nil _ _, (((B2.out.setCell (Nat.le_refl _) _).setCell (Nat.le_refl _) _).setCell (Nat.le_refl _) _).setCell (Nat.le_refl _) _⟩

theorem implReplay_any (gb n gc eb eo m ec : Nat) (g : Nat → I5) (eh : Nat → E3) (w : World) (hn : n ≤ maxLen) (hg : gb < w.heap.size) (hI : InsAt w gb 0 n g) (he : eb < w.heap.size) (hE : EvAt w eb eo m eh) (hm : m ≤ 1048576) (hV : w.cell? ⟨0, 0, none⟩ = some (.iface 190 (.agg #[.pointer (some ⟨1, 83, none⟩)]))) :
    Calls Tryz.prog 11 #[.slice (some ⟨gb, 0, none⟩) n gc, .slice (some ⟨eb, eo, none⟩) m ec] w (DoneR w (resS (repO g n eh m)) (repO g n eh m).isSome) :=
  implReplay_l gb n gc _ m ec g eh w hn hg hI (.inr ⟨eb, eo, rfl, he, hE⟩) hm hV

end Go.Proofs.YtkpbdcahpkpobaaGreatDoor
