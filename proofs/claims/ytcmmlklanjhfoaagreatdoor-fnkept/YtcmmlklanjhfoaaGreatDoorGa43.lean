/- The walk of the model's Restore. -/
import Derived.Test.YtcmmlklanjhfoaaGreatDoorGa34
import Derived.Test.YtcmmlklanjhfoaaGreatDoorGa42
import Derived.Test.YtcmmlklanjhfoaaGreatDoorGa3
import Derived.Test.YtcmmlklanjhfoaaGreatDoorGa40
namespace Go.Proofs.YtcmmlklanjhfoaaGreatDoor
open Go.ChangeShapes Go.WideShapes Go.ChangeAt Go.RowKit Go.Deep Go.Sort

/-- There is something to restore. -/
def RsOk (g : Nat → I5) (n : Nat) (eh : Nat → E3) (m : Nat) (q : Nat → K9) (c : Nat) (z : Int) : Prop := KpOk g n eh m q c ∧ 0 ≤ z ∧ z ≤ m
/-- What is restored, and with how many done again. -/
noncomputable def rsS (g : Nat → I5) (n : Nat) (eh : Nat → E3) (m : Nat) (q : Nat → K9) (c : Nat) (z : Int) : S4 := if pB (RsOk g n eh m q c z) = true then resS (rp g n eh z.toNat) else ⟨0, [], [], 0⟩
noncomputable def rsK (g : Nat → I5) (n : Nat) (eh : Nat → E3) (m : Nat) (q : Nat → K9) (c : Nat) (z : Int) : Int := if pB (RsOk g n eh m q c z) = true then z - (q (lastI q z c)).n else -1
def ResR (w : World) (S : S4) (k : Int) (e : Ending) (w' : World) : Prop := ∃ v, e = .returned (.tuple #[v, .int .i64 k]) ∧ StOwn w' w.heap.size v S.p S.rs S.os S.c ∧ Below w.heap.size w w'
theorem rs_no {g : Nat → I5} {n m c : Nat} {eh : Nat → E3} {q : Nat → K9} {z : Int} (h : ¬ RsOk g n eh m q c z) : rsS g n eh m q c z = ⟨0, [], [], 0⟩ ∧ rsK g n eh m q c z = -1 := by
  unfold rsS rsK
  rw [if_neg (by rw [pB_false h]; simp), if_neg (by rw [pB_false h]; simp)]
  exact ⟨rfl, rfl⟩
/-- Where there is: from the state a events in, those up to j are done again. -/
theorem rs_yes {g : Nat → I5} {n m c : Nat} {eh : Nat → E3} {q : Nat → K9} {z : Int} (h : RsOk g n eh m q c z) : ∃ (a j : Nat) (S Sm : S4), z = j ∧ a ≤ j ∧ j ≤ m ∧ m ≤ 200 ∧ (q (lastI q z c)).n = a ∧ lastI q z c < c ∧ rp g n eh a = some (q (lastI q z c)).s ∧ rp g n eh j = some S ∧ rp g n eh m = some Sm ∧ progOkB g n 4 = true ∧ rsS g n eh m q c z = S ∧ rsK g n eh m q c z = (j : Int) - (a : Int) := by
  obtain ⟨hk, h0, h1⟩ := h
  obtain ⟨hp, h2, Sm, hm⟩ := repO_prog hk.so
  have hl := lastI_lt q z c hk.li.1
  have hle : (q (lastI q z c)).n ≤ z := lastI_le (by rw [hk.li.2.1]; exact h0) c
  have ha := hk.al _ hl
  obtain ⟨S, hS⟩ := rp_some hm (show z.toNat ≤ m by omega)
  refine ⟨(q (lastI q z c)).n.toNat, z.toNat, S, Sm, by omega, ?_, by omega, h2, ?_, hl, ha.2.2, hS, hm, hp, ?_, ?_⟩
  · have := ha.1
    omega
  · have := ha.1
    omega
  · unfold rsS
    rw [if_pos (pB_true ⟨hk, h0, h1⟩), hS]
    rfl
  · unfold rsK
    rw [if_pos (pB_true ⟨hk, h0, h1⟩)]
    have := ha.1
    omega

theorem Rl.start {w w4 : World} {B4 : Nat} {S : S4} {ra oa : Option Addr} {rc oc : Nat} (b : Below (w.heap.size + 1) (w.alloc (.cells #[.int .i64 0, .slice none 0 0, .slice none 0 0, .int .i64 0] 32)) w4) (o : StOwn w4 B4 (stV S.p ra S.rs.length rc oa S.os.length oc S.c) S.p S.rs S.os S.c) (h1 : w.heap.size + 1 ≤ B4) (h2 : B4 ≤ w4.heap.size) :
    Rl w (w4.alloc (.cells #[.int .i64 S.p, .slice ra S.rs.length rc, .slice oa S.os.length oc, .int .i64 S.c] 32)) w.heap.size w4.heap.size S.p S.c ra rc oa oc S.rs S.os := by
  have bB := below_alloc w4 (.cells #[.int .i64 S.p, .slice ra S.rs.length rc, .slice oa S.os.length oc, .int .i64 S.c] 32)
  have bC := b.trans (bB.mono (Nat.le_trans h1 h2))
  have eR := bC.block w.heap.size (by omega)
  obtain ⟨r0, r1, r2, r3⟩ := BoxC.new w (.int .i64 0) (.slice none 0 0) (.slice none 0 0) (.int .i64 0) 32
  refine ⟨(Tl.of_alloc (o.mono h1) (Nat.le_trans h1 h2) _).widen (by simp) (Nat.le_refl _), fun j => new_frozen _ _ _ j rfl, ⟨(World.cell?_of_block eR).trans r0, (World.cell?_of_block eR).trans r1, (World.cell?_of_block eR).trans r2, (World.cell?_of_block eR).trans r3⟩, fun j => (World.frozen?_of_block eR).trans (new_frozen _ _ _ j rfl), (below_alloc w _).trans (bC.mono (by omega)), rfl⟩

theorem slice_ev {w : World} {ea : Option Addr} {m ec : Nat} {eh : Nat → E3} (hE : EvL w ea m eh) (hec : m ≤ ec) {a j : Nat} (haj : a ≤ j) (hj : j ≤ m) :
    ∃ a', (∀ w', (Instr.slice 25 (.slice ea m ec) (some (.int .i64 (a : Int))) (some (.int .i64 (j : Int))) none).run Tryz.prog w' = .ok (.slice a' (j - a) (ec - a)) w') ∧ EvL w a' (j - a) (fun i => eh (a + i)) := by
  have h1 : (a : Int) ≤ (j : Int) := by omega
  have h2 : (j : Int) ≤ (ec : Int) := by omega
  rcases hE with rfl | ⟨b, off, rfl, hb, hc⟩
  · obtain rfl : j = 0 := by omega
    obtain rfl : a = 0 := by omega
    cases ea with
    | none => exact ⟨none, fun w' => by simp [go_sem, sliced], .inl rfl⟩
    | some x => exact ⟨some x, fun w' => by simp [go_sem, sliced, Addr.add], .inl rfl⟩
  · by_cases hz : ec = a
    · refine ⟨some ⟨b, off, none⟩, fun w' => ?_, .inl (by omega)⟩
      obtain rfl : j = a := by omega
      subst hz
      simp [go_sem, sliced]
    · refine ⟨some ⟨b, off + a * 3, none⟩, fun w' => ?_, .inr ⟨b, off + a * 3, rfl, hb, fun i hi => ?_⟩⟩
      · simp [go_sem, sliced, h1, h2, hz, Addr.add]
      · have := hc (a + i) (by omega)
        rw [show off + (a + i) * 3 = off + a * 3 + i * 3 by omega] at this
        exact this

/-- An event in block N. -/
def BoxE3 (w : World) (N : Nat) (x : E3) : Prop := w.cell? ⟨N, 0, none⟩ = some (.int .i64 x.k) ∧ w.cell? ⟨N, 1, none⟩ = some (.int .i64 x.q) ∧ w.cell? ⟨N, 2, none⟩ = some (.int .i64 x.v)

set_option maxRecDepth 100000 in
set_option maxHeartbeats 2000000 in
theorem implRestore_any (gb n gc : Nat) (ea : Option Addr) (m ec : Nat) (ka : Option Addr) (c kc : Nat) (g : Nat → I5) (eh : Nat → E3) (q : Nat → K9) (z : Int) (w : World) (hn : n ≤ maxLen) (hg : gb < w.heap.size) (hI : InsAt w gb 0 n g) (hE : EvL w ea m eh) (hm : m ≤ 1048576) (hec : m ≤ ec) (hc : c ≤ 1048576) (hA : AllKept w ka c q) (hl : ∀ i, i < c → (q i).rs.length ≤ 1048576 ∧ (q i).os.length ≤ 1048576) (hw : ∀ i, i < c → (Lit.int .i64 (q i).n).wf = true) :
    Calls Tryz.prog 11 #[.slice (some ⟨gb, 0, none⟩) n gc, .slice ea m ec, .slice ka c kc, .int .i64 z] w (ResR w (rsS g n eh m q c z) (rsK g n eh m q c z)) := by
  have hm' : (m : Int) ≤ 1048576 := by omega
  have HI : Hid (InsAt w gb 0 n g) := hI
  have HE : Hid (EvL w ea m eh) := hE
  have HN : Hid (n ≤ maxLen) := hn
  have HA : Hid (AllKept w ka c q) := hA
  have HL : Hid (∀ i, i < c → (q i).rs.length ≤ 1048576 ∧ (q i).os.length ≤ 1048576) := hl
  have BA : Hid (Below w.heap.size w (w.alloc (.cells #[.int .i64 0, .slice none 0 0, .slice none 0 0, .int .i64 0] 32))) := below_alloc _ _
  have NB : Hid (BoxC (w.alloc (.cells #[.int .i64 0, .slice none 0 0, .slice none 0 0, .int .i64 0] 32)) w.heap.size (.int .i64 0) (.slice none 0 0) (.slice none 0 0) (.int .i64 0) ∧ ∀ j, (w.alloc (.cells #[.int .i64 0, .slice none 0 0, .slice none 0 0, .int .i64 0] 32)).frozen? ⟨w.heap.size, j, none⟩ = false) := ⟨BoxC.new w _ _ _ _ _, fun j => new_frozen _ _ _ j rfl⟩
  have HK : Hid (∀ wx, Below w.heap.size w wx → Calls Tryz.prog 10 #[.slice (some ⟨gb, 0, none⟩) n gc, .slice ea m ec, .slice ka c kc] wx fun e w' => e = .returned (.bool (pB (KpOk g n eh m q c))) ∧ Below wx.heap.size wx w') := fun wx hb => implKeptOk_any gb n gc ea m ec ka c kc g eh q wx hn (Nat.lt_of_lt_of_le hg hb.size) (hI.below hb hg) (hE.below hb) hm hc (hA.below hb) hl hw
  have hz0 : (w.alloc (.cells #[.int .i64 0, .slice none 0 0, .slice none 0 0, .int .i64 0] 32)).heap.size = w.heap.size + 1 := by simp
  have HB0 : Hid (∀ w4, Below (w.heap.size + 1) (w.alloc (.cells #[.int .i64 0, .slice none 0 0, .slice none 0 0, .int .i64 0] 32)) w4 → ∀ (B4 : Nat) (S : S4) (ra oa : Option Addr) (rc oc : Nat), StOwn w4 B4 (stV S.p ra S.rs.length rc oa S.os.length oc S.c) S.p S.rs S.os S.c → w.heap.size + 1 ≤ B4 → B4 ≤ w4.heap.size → Rl w (w4.alloc (.cells #[.int .i64 S.p, .slice ra S.rs.length rc, .slice oa S.os.length oc, .int .i64 S.c] 32)) w.heap.size w4.heap.size S.p S.c ra rc oa oc S.rs S.os) := fun w4 b B4 S ra oa rc oc o h1 h2 => Rl.start b o h1 h2
  clear hI hE hn hA hl hw
  rcases Bool.eq_false_or_eq_true (decide (z < 0)) with t1 | t1
  · have HV : Hid (¬ RsOk g n eh m q c z) := fun h => by
      have := of_decide_eq_true t1
      have := h.2.1
      omega
    rw [(rs_no HV.out).1, (rs_no HV.out).2]
    go_enter Tryz.func11, Tryz.ntmps11
    go_upto_region 1 with fail
    generalize w.alloc (.cells #[.int .i64 0, .slice none 0 0, .slice none 0 0, .int .i64 0] 32) = wa at *
    obtain ⟨⟨r0, r1, r2, r3⟩, rf⟩ := NB.out
    go_wp2
    refine bodyPost_ret (v := .tuple #[stV 0 none 0 0 none 0 0 0, .int .i64 (-1)]) (by simp [results, Tryz.results11, go_sem, r0, r1, r2, r3]) rfl ⟨_, rfl, StOwn.nil _ _, ?_⟩
    exact (((BA.out.setCell (Nat.le_refl _) _).setCell (Nat.le_refl _) _).setCell (Nat.le_refl _) _).setCell (Nat.le_refl _) _
  rcases Bool.eq_false_or_eq_true (decide (z > (m : Int))) with t2 | t2
  · have HV : Hid (¬ RsOk g n eh m q c z) := fun h => by
      have := of_decide_eq_true t2
      have := h.2.2
      omega
    rw [(rs_no HV.out).1, (rs_no HV.out).2]
    go_enter Tryz.func11, Tryz.ntmps11
    go_upto_region 1 with fail
    generalize w.alloc (.cells #[.int .i64 0, .slice none 0 0, .slice none 0 0, .int .i64 0] 32) = wa at *
    obtain ⟨⟨r0, r1, r2, r3⟩, rf⟩ := NB.out
    go_wp2
    refine bodyPost_ret (v := .tuple #[stV 0 none 0 0 none 0 0 0, .int .i64 (-1)]) (by simp [results, Tryz.results11, go_sem, r0, r1, r2, r3]) rfl ⟨_, rfl, StOwn.nil _ _, ?_⟩
    exact (((BA.out.setCell (Nat.le_refl _) _).setCell (Nat.le_refl _) _).setCell (Nat.le_refl _) _).setCell (Nat.le_refl _) _
  rcases Bool.eq_false_or_eq_true (pB (KpOk g n eh m q c)) with t | t
  case inr =>
    have HV : Hid (¬ RsOk g n eh m q c z) := fun h => by
      rw [pB_true h.1] at t
      cases t
    rw [(rs_no HV.out).1, (rs_no HV.out).2]
    rw [t] at HK
    clear t
    go_enter Tryz.func11, Tryz.ntmps11
    go_upto_region 1 with fail
    generalize w.alloc (.cells #[.int .i64 0, .slice none 0 0, .slice none 0 0, .int .i64 0] 32) = wa at *
    go_wp2_with fail
    refine (HK.out wa BA.out).mono ?_
    rintro e w1 ⟨rfl, b1⟩
    have B1 : Hid (Below (w.heap.size + 1) wa w1) := hz0 ▸ b1
    have B1' : Hid (Below w.heap.size w w1) := BA.out.trans (b1.mono BA.out.size)
    clear b1
    have eR := B1.out.block w.heap.size (by omega)
    obtain ⟨⟨a0, a1, a2, a3⟩, af⟩ := NB.out
    obtain ⟨r0, r1, r2, r3⟩ : BoxC w1 w.heap.size (.int .i64 0) (.slice none 0 0) (.slice none 0 0) (.int .i64 0) := ⟨(World.cell?_of_block eR).trans a0, (World.cell?_of_block eR).trans a1, (World.cell?_of_block eR).trans a2, (World.cell?_of_block eR).trans a3⟩
    have rf : ∀ j, w1.frozen? ⟨w.heap.size, j, none⟩ = false := fun j => (World.frozen?_of_block eR).trans (af j)
    clear a0 a1 a2 a3 af eR
    go_wp2
    refine bodyPost_ret (v := .tuple #[stV 0 none 0 0 none 0 0 0, .int .i64 (-1)]) (by simp [results, Tryz.results11, go_sem, r0, r1, r2, r3]) rfl ⟨_, rfl, StOwn.nil _ _, ?_⟩
    exact (((B1'.out.setCell (Nat.le_refl _) _).setCell (Nat.le_refl _) _).setCell (Nat.le_refl _) _).setCell (Nat.le_refl _) _
  have hK := pB_iff.1 t
  obtain ⟨a, j, S, Sm, hz, haj, hjm, hm2, hxa, hlt, hra, hrj, hrm, hpk, eS, eK⟩ := rs_yes (q := q) (z := z) ⟨hK, by have := of_decide_eq_false t1; omega, by have := of_decide_eq_false t2; omega⟩
  rw [eS, eK]
  rw [t] at HK
  have HPK : Hid (progOkB g n 4 = true) := hpk
  have HR : Hid (rp g n eh a = some (q (lastI q z c)).s ∧ rp g n eh j = some S ∧ rp g n eh m = some Sm) := ⟨hra, hrj, hrm⟩
  have HX : Hid ((q (lastI q z c)).n = a ∧ lastI q z c < c ∧ 0 < c) := ⟨hxa, hlt, hK.li.1⟩
  have HJ : Hid (a ≤ j ∧ j ≤ m ∧ m ≤ 200) := ⟨haj, hjm, hm2⟩
  have HL1 : Hid (∀ wx, Below w.heap.size w wx → Calls Tryz.prog 26 #[.slice ka c kc, .int .i64 z] wx fun e w' => e = .returned (kpV (q (lastI q z c)).n (q (lastI q z c)).p (q (lastI q z c)).ra (q (lastI q z c)).rs.length (q (lastI q z c)).rc (q (lastI q z c)).oa (q (lastI q z c)).os.length (q (lastI q z c)).oc (q (lastI q z c)).c) ∧ Below wx.heap.size wx w') := fun wx hb => lastWithin_any ka c kc q z wx hc hK.li.1 (HA.out.below hb)
  have HXs : Hid (∀ wx, Below w.heap.size w wx → Sl wx (q (lastI q z c)).ra (q (lastI q z c)).rs ∧ Sl wx (q (lastI q z c)).oa (q (lastI q z c)).os) := fun wx hb => (HA.out.below hb).lst _ hlt
  have HXl : Hid ((q (lastI q z c)).rs.length ≤ 1048576 ∧ (q (lastI q z c)).os.length ≤ 1048576) := HL.out _ hlt
  clear hpk hra hrj hrm hxa hlt eS eK hK t haj hjm hm2
  generalize q (lastI q z c) = x at *
  subst hz
  have g1 : j ≤ m := HJ.out.2.1
  have g2 : ¬ ((m : Int) < (j : Int)) := by omega
  go_enter Tryz.func11, Tryz.ntmps11
  go_upto_region 1 with fail
  generalize w.alloc (.cells #[.int .i64 0, .slice none 0 0, .slice none 0 0, .int .i64 0] 32) = wa at *
  go_wp2_with fail
  refine (HK.out wa BA.out).mono ?_
  rintro e w1 ⟨rfl, b1⟩
  have B1 : Hid (Below (w.heap.size + 1) wa w1) := hz0 ▸ b1
  have B1' : Hid (Below w.heap.size w w1) := BA.out.trans (b1.mono BA.out.size)
  clear b1
  clear HK NB
  go_wp2_with fail
  clear t1 t2 g1 g2
  refine (HL1.out w1 B1'.out).mono ?_
  rintro e w2 ⟨rfl, b2⟩
  have B2 : Hid (Below (w.heap.size + 1) wa w2 ∧ Below w.heap.size w w2) := ⟨B1.out.trans (b2.mono (by have := B1.out.size; omega)), B1'.out.trans (b2.mono B1'.out.size)⟩
  clear b2 B1 B1'
  rw [HX.out.1]
  have bq := below_alloc w2 (.cells #[.int .i64 (a : Int), .int .i64 x.p, .slice x.ra x.rs.length x.rc, .slice x.oa x.os.length x.oc, .int .i64 x.c] 48)
  have B3 : Hid (Below (w.heap.size + 1) wa (w2.alloc (.cells #[.int .i64 (a : Int), .int .i64 x.p, .slice x.ra x.rs.length x.rc, .slice x.oa x.os.length x.oc, .int .i64 x.c] 48)) ∧ Below w.heap.size w (w2.alloc (.cells #[.int .i64 (a : Int), .int .i64 x.p, .slice x.ra x.rs.length x.rc, .slice x.oa x.os.length x.oc, .int .i64 x.c] 48))) := ⟨B2.out.1.trans (bq.mono (by have := B2.out.1.size; omega)), B2.out.2.trans (bq.mono B2.out.2.size)⟩
  have F3 : Hid (Box5 (w2.alloc (.cells #[.int .i64 (a : Int), .int .i64 x.p, .slice x.ra x.rs.length x.rc, .slice x.oa x.os.length x.oc, .int .i64 x.c] 48)) w2.heap.size (.int .i64 (a : Int)) (.int .i64 x.p) (.slice x.ra x.rs.length x.rc) (.slice x.oa x.os.length x.oc) (.int .i64 x.c)) := Box5.new w2 _ _ _ _ _ _
  have Z3 : Hid (w.heap.size + 1 ≤ w2.heap.size ∧ (w2.alloc (.cells #[.int .i64 (a : Int), .int .i64 x.p, .slice x.ra x.rs.length x.rc, .slice x.oa x.os.length x.oc, .int .i64 x.c] 48)).heap.size = w2.heap.size + 1) := ⟨by have := B2.out.1.size; omega, by simp⟩
  clear bq B2
  go_wp2_with fail
  generalize (w2.alloc (.cells #[.int .i64 (a : Int), .int .i64 x.p, .slice x.ra x.rs.length x.rc, .slice x.oa x.os.length x.oc, .int .i64 x.c] 48)) = w3 at *
  refine (copyState_any x.p x.c x.ra x.oa x.rc x.oc x.rs x.os w3 HXl.out.1 HXl.out.2 (HXs.out w3 B3.out.2).1 (HXs.out w3 B3.out.2).2).mono ?_
  rintro e w4 ⟨v4, rfl, o4, b4⟩
  obtain ⟨ra4, rc4, oa4, oc4, rfl, -, -⟩ := o4.read
  have D5 : Hid (Rl w (w4.alloc (.cells #[.int .i64 x.p, .slice ra4 x.rs.length rc4, .slice oa4 x.os.length oc4, .int .i64 x.c] 32)) w.heap.size w4.heap.size x.p x.c ra4 rc4 oa4 oc4 x.rs x.os) := HB0.out w4 (B3.out.1.trans (b4.mono (by have := B3.out.1.size; omega))) w3.heap.size x.s ra4 oa4 rc4 oc4 o4 (by have := Z3.out; omega) b4.size
  have F5 : Hid (Box5 (w4.alloc (.cells #[.int .i64 x.p, .slice ra4 x.rs.length rc4, .slice oa4 x.os.length oc4, .int .i64 x.c] 32)) w2.heap.size (.int .i64 (a : Int)) (.int .i64 x.p) (.slice x.ra x.rs.length x.rc) (.slice x.oa x.os.length x.oc) (.int .i64 x.c)) := (F3.out.below b4).below (below_alloc _ _)
  have NF : Hid (w4.heap.size ≠ w2.heap.size ∧ w.heap.size ≠ w2.heap.size) := ⟨by have := Z3.out; have := b4.size; omega, by have := Z3.out; omega⟩
  clear o4 b4 B3 F3 Z3 HB0
  obtain ⟨sa, hsl, hSE⟩ := slice_ev HE.out hec HJ.out.1 HJ.out.2.1
  have HSE : Hid (EvL w sa (j - a) (fun i => eh (a + i))) := hSE
  have hja : ((j - a : Nat) : Int) ≤ 1048576 := by have := HJ.out; omega
  clear hSE
  obtain ⟨f0, -⟩ := F5.out
  go_upto_region 5 with fail
  generalize w4.alloc (.cells #[.int .i64 x.p, .slice ra4 x.rs.length rc4, .slice oa4 x.os.length oc4, .int .i64 x.c] 32) = w5 at *
  generalize w4.heap.size = Bs at *
  generalize w2.heap.size = Fb at *
  go_wp2_with fail
  clear hsl f0
  go_loopw [42] (fun i wr => ∃ k : Nat, k ≤ j - a ∧ i = .int .i64 k ∧ Hid (∃ (T : S4) (ra : Option Addr) (rc : Nat) (oa : Option Addr) (oc : Nat), rp g n eh (a + k) = some T ∧ Rl w wr w.heap.size Bs T.p T.c ra rc oa oc T.rs T.os ∧ Box5 wr Fb (.int .i64 (a : Int)) (.int .i64 x.p) (.slice x.ra x.rs.length x.rc) (.slice x.oa x.os.length x.oc) (.int .i64 x.c))) (fun i _ => (j - a) - (intOf i).toNat)
  case atStart => exact ⟨0, Nat.zero_le _, rfl, x.s, _, _, _, _, HR.out.1, D5.out, F5.out⟩
  case round =>
    clear D5 F5
    obtain ⟨k, hk, rfl, HD⟩ := hrel
    obtain ⟨T, ra, rc, oa, oc, hrp, hD, hF⟩ := HD.out
    have DRk : Hid (Rl w wr w.heap.size Bs T.p T.c ra rc oa oc T.rs T.os) := hD
    have FRk : Hid (Box5 wr Fb (.int .i64 (a : Int)) (.int .i64 x.p) (.slice x.ra x.rs.length x.rc) (.slice x.oa x.os.length x.oc) (.int .i64 x.c)) := hF
    have HRk : Hid (rp g n eh (a + k) = some T) := hrp
    clear HD hD hF hrp
    obtain ⟨b0, b1, b2, b3⟩ := DRk.out.tl.box
    by_cases hlt : k < j - a
    · have hlt' : (k : Int) < ((j - a : Nat) : Int) := by omega
      obtain ⟨eb, eo, rfl, ze, k0, k1, k2⟩ := (HSE.out.below DRk.out.be).at hlt
      have hlen := OkS.len (rp_ok HPK.out _ _ HRk.out)
      have HLn : Hid (T.rs.length ≤ 1048576 ∧ T.os.length ≤ 1048576) := ⟨by omega, by omega⟩
      clear hlen
      have hnx := rp_next HRk.out HR.out.2.2 (by have := HJ.out; omega)
      have HNx : Hid (doB g n T.p T.rs T.os T.c (eh (a + k)).k (eh (a + k)).q (eh (a + k)).v = true ∧ rp g n eh (a + k + 1) = some (doS g n T.p T.rs T.os T.c (eh (a + k)).k (eh (a + k)).q (eh (a + k)).v)) := hnx
      clear hnx
      have Dq : Hid (Rl w (wr.alloc (.cells #[.int .i64 (eh (a + k)).k, .int .i64 (eh (a + k)).q, .int .i64 (eh (a + k)).v] 62)) w.heap.size Bs T.p T.c ra rc oa oc T.rs T.os) := DRk.out.below (below_alloc _ _)
      have Fq : Hid (Box5 (wr.alloc (.cells #[.int .i64 (eh (a + k)).k, .int .i64 (eh (a + k)).q, .int .i64 (eh (a + k)).v] 62)) Fb (.int .i64 (a : Int)) (.int .i64 x.p) (.slice x.ra x.rs.length x.rc) (.slice x.oa x.os.length x.oc) (.int .i64 x.c)) := FRk.out.below (below_alloc _ _)
      clear b0 b1 b2 b3
      have NE : Hid (BoxE3 (wr.alloc (.cells #[.int .i64 (eh (a + k)).k, .int .i64 (eh (a + k)).q, .int .i64 (eh (a + k)).v] 62)) wr.heap.size (eh (a + k))) := by
        show BoxE3 _ _ _
        unfold BoxE3
        simp
      go_upto_region 8 with fail
      generalize wr.alloc (.cells #[.int .i64 (eh (a + k)).k, .int .i64 (eh (a + k)).q, .int .i64 (eh (a + k)).v] 62) = wq at *
      generalize wr.heap.size = Me at *
      clear k0 k1 k2
      obtain ⟨b0, b1, b2, b3⟩ := Dq.out.tl.box
      obtain ⟨e0, e1, e2⟩ := NE.out
      go_wp2_with fail
      clear b0 b1 b2 b3 e0 e1 e2
      refine (doIn_any gb 0 n gc g T.p T.c ra oa rc oc T.rs T.os _ _ _ wq HN.out (Nat.lt_of_lt_of_le hg Dq.out.be.size) (HI.out.below Dq.out.be hg) HLn.out.1 HLn.out.2 Dq.out.tl.sl.1 Dq.out.tl.sl.2 HPK.out).mono ?_
      rintro e w6 hd
      rw [HNx.out.1] at hd
      have hR7 := HNx.out.2
      generalize doS g n T.p T.rs T.os T.c (eh (a + k)).k (eh (a + k)).q (eh (a + k)).v = T7 at hd hR7
      obtain ⟨v6, rfl, o6, q6⟩ := hd
      obtain ⟨ra6, rc6, oa6, oc6, rfl, -, -⟩ := o6.read
      have zB : Bs < wq.heap.size := Dq.out.tl.hi
      have D6 := Dq.out.below q6
      have F6 := Fq.out.below q6
      have HN7 : Hid (rp g n eh (a + (k + 1)) = some T7 ∧ Rl w _ w.heap.size Bs T7.p T7.c ra6 rc6 oa6 oc6 T7.rs T7.os ∧ Box5 ((((w6.setCell ⟨Bs, 0, none⟩ (.int .i64 T7.p)).setCell ⟨Bs, 1, none⟩ (.slice ra6 T7.rs.length rc6)).setCell ⟨Bs, 2, none⟩ (.slice oa6 T7.os.length oc6)).setCell ⟨Bs, 3, none⟩ (.int .i64 T7.c)) Fb (.int .i64 (a : Int)) (.int .i64 x.p) (.slice x.ra x.rs.length x.rc) (.slice x.oa x.os.length x.oc) (.int .i64 x.c)) := ⟨hR7, D6.next o6 zB, (((F6.setO NF.out.1 _ _).setO NF.out.1 _ _).setO NF.out.1 _ _).setO NF.out.1 _ _⟩
      obtain ⟨y0, y1, y2, y3⟩ := D6.tl.box
      have yf := D6.fz
      clear D6 F6 o6 q6 hR7 HNx zB
      go_wp2
      go_roundw
      case rel => exact ⟨k + 1, by omega, by go_num, T7, _, _, _, _, HN7.out.1, HN7.out.2.1, HN7.out.2.2⟩
      case measure => simp [intOf]; omega
    · have hkj : a + k = j := by have := HJ.out; omega
      have hTS : T = S := by
        have h1 := HRk.out
        rw [hkj, HR.out.2.1] at h1
        injection h1 with h1
        exact h1.symm
      subst hTS
      obtain ⟨r0, r1, r2, r3⟩ := DRk.out.rb
      have rf := DRk.out.rf
      obtain ⟨f0, -⟩ := FRk.out
      have dn : Bs ≠ w.heap.size := by have := DRk.out.tl.lo; omega
      have hlt' : ¬ ((k : Int) < ((j - a : Nat) : Int)) := by omega
      have nf2 : w.heap.size ≠ Fb := NF.out.2
      have nf3 : Fb ≠ w.heap.size := fun e => NF.out.2 e.symm
      have ha0 : (a : Int) ≤ 200 := by have := HJ.out; omega
      have hj0 : (j : Int) ≤ 200 := by have := HJ.out; omega
      go_wp2_with fail
      go_region
      go_wp2
      refine bodyPost_ret (v := .tuple #[stV T.p ra T.rs.length rc oa T.os.length oc T.c, .int .i64 ((j : Int) - (a : Int))]) (by simp [results, Tryz.results11, go_sem, r0, r1, r2, r3]) rfl ⟨_, rfl, ?_, ?_⟩
      · exact StOwn.dr (DRk.out.done _ _ _ _).2
      · exact Below.drew (DRk.out.done _ _ _ _).1

end Go.Proofs.YtcmmlklanjhfoaaGreatDoor

namespace Go.Proofs.YtcmmlklanjhfoaaGreatDoor
open Go.ChangeShapes Go.WideShapes Go.ChangeAt Go.RowKit Go.Deep Go.Sort

/-- Where one event more comes, what the model does there. -/
theorem rp_l2Do {gb n gc : Nat} {g : Nat → I5} {eh : Nat → E3} {k m : Nat} {T Sm : S4} (hp : progOkB g n 4 = true) (h : rp g n eh k = some T) (hm : rp g n eh m = some Sm) (hk : k < m) (ra oa : Option Addr) (rc oc : Nat) (w : World) (hb : gb < w.heap.size) (hI : InsAt w gb 0 n g) (h1 : Sl w ra T.rs) (h2 : Sl w oa T.os) :
    Calls Tryz.prog 33 #[.slice (some ⟨gb, 0, none⟩) n gc, stV T.p ra T.rs.length rc oa T.os.length oc T.c, evV (eh k).k (eh k).q (eh k).v] w (DoneR w (doS g n T.p T.rs T.os T.c (eh k).k (eh k).q (eh k).v) true) := by
  have hn := rp_next h hm hk
  have hc : T.c = 0 := by
    by_cases e : T.c = 0
    · exact e
    · rw [doB_code e] at hn
      cases hn.1
  have hr := right_of hp (rp_ok hp k T h) hc
  obtain ⟨p, rs, os, cc⟩ := T
  dsimp only at hc hr hn h1 h2 ⊢
  subst hc
  obtain ⟨-, ⟨pk, hpk, -⟩, -, -⟩ := st_parts (right_parts hr).2.1
  subst hpk
  rw [← hn.1]
  exact l2Do_any gb 0 n gc pk g ra oa rc oc rs os _ _ _ w hb hI h1 h2 hr

set_option maxRecDepth 100000 in
set_option maxHeartbeats 2000000 in
theorem specRestore_any (gb n gc : Nat) (ea : Option Addr) (m ec : Nat) (ka : Option Addr) (c kc : Nat) (g : Nat → I5) (eh : Nat → E3) (q : Nat → K9) (z : Int) (w : World) (hn : n ≤ maxLen) (hg : gb < w.heap.size) (hI : InsAt w gb 0 n g) (hE : EvL w ea m eh) (hm : m ≤ 1048576) (hec : m ≤ ec) (hc : c ≤ 1048576) (hA : AllKept w ka c q) (hl : ∀ i, i < c → (q i).rs.length ≤ 1048576 ∧ (q i).os.length ≤ 1048576) :
    Calls Tryz.prog 15 #[.slice (some ⟨gb, 0, none⟩) n gc, .slice ea m ec, .slice ka c kc, .int .i64 z] w (ResR w (rsS g n eh m q c z) (rsK g n eh m q c z)) := by
  have hm' : (m : Int) ≤ 1048576 := by omega
  have hc' : (c : Int) ≤ 1048576 := by omega
  have HI : Hid (InsAt w gb 0 n g) := hI
  have HE : Hid (EvL w ea m eh) := hE
  have HN : Hid (n ≤ maxLen) := hn
  have HA : Hid (AllKept w ka c q) := hA
  have HL : Hid (∀ i, i < c → (q i).rs.length ≤ 1048576 ∧ (q i).os.length ≤ 1048576) := hl
  have BA : Hid (Below w.heap.size w (w.alloc (.cells #[.int .i64 0, .slice none 0 0, .slice none 0 0, .int .i64 0] 32))) := below_alloc _ _
  have NB : Hid (BoxC (w.alloc (.cells #[.int .i64 0, .slice none 0 0, .slice none 0 0, .int .i64 0] 32)) w.heap.size (.int .i64 0) (.slice none 0 0) (.slice none 0 0) (.int .i64 0) ∧ ∀ j, (w.alloc (.cells #[.int .i64 0, .slice none 0 0, .slice none 0 0, .int .i64 0] 32)).frozen? ⟨w.heap.size, j, none⟩ = false) := ⟨BoxC.new w _ _ _ _ _, fun j => new_frozen _ _ _ j rfl⟩
  have HK : Hid (∀ wx, Below w.heap.size w wx → Calls Tryz.prog 16 #[.slice (some ⟨gb, 0, none⟩) n gc, .slice ea m ec, .slice ka c kc] wx fun e w' => e = .returned (.bool (pB (KpOk g n eh m q c))) ∧ Below wx.heap.size wx w') := fun wx hb => specKeptOk_any gb n gc ea m ec ka c kc g eh q wx hn (Nat.lt_of_lt_of_le hg hb.size) (hI.below hb hg) (hE.below hb) hm hec hc (hA.below hb) hl
  have hz0 : (w.alloc (.cells #[.int .i64 0, .slice none 0 0, .slice none 0 0, .int .i64 0] 32)).heap.size = w.heap.size + 1 := by simp
  have HB0 : Hid (∀ w4, Below (w.heap.size + 1) (w.alloc (.cells #[.int .i64 0, .slice none 0 0, .slice none 0 0, .int .i64 0] 32)) w4 → ∀ (B4 : Nat) (S : S4) (ra oa : Option Addr) (rc oc : Nat), StOwn w4 B4 (stV S.p ra S.rs.length rc oa S.os.length oc S.c) S.p S.rs S.os S.c → w.heap.size + 1 ≤ B4 → B4 ≤ w4.heap.size → Rl w (w4.alloc (.cells #[.int .i64 S.p, .slice ra S.rs.length rc, .slice oa S.os.length oc, .int .i64 S.c] 32)) w.heap.size w4.heap.size S.p S.c ra rc oa oc S.rs S.os) := fun w4 b B4 S ra oa rc oc o h1 h2 => Rl.start b o h1 h2
  clear hI hE hn hA hl
  have HBad : Hid (∀ w1, Below (w.heap.size + 1) (w.alloc (.cells #[.int .i64 0, .slice none 0 0, .slice none 0 0, .int .i64 0] 32)) w1 → BoxC w1 w.heap.size (.int .i64 0) (.slice none 0 0) (.slice none 0 0) (.int .i64 0) ∧ ∀ j, w1.frozen? ⟨w.heap.size, j, none⟩ = false) := fun w1 b => by
    have eR := b.block w.heap.size (by omega)
    obtain ⟨⟨a0, a1, a2, a3⟩, af⟩ := NB.out
    exact ⟨⟨(World.cell?_of_block eR).trans a0, (World.cell?_of_block eR).trans a1, (World.cell?_of_block eR).trans a2, (World.cell?_of_block eR).trans a3⟩, fun j => (World.frozen?_of_block eR).trans (af j)⟩
  rcases Bool.eq_false_or_eq_true (pB (KpOk g n eh m q c)) with t | t
  case inr =>
    have HV : Hid (¬ RsOk g n eh m q c z) := fun h => by
      rw [pB_true h.1] at t
      cases t
    rw [(rs_no HV.out).1, (rs_no HV.out).2]
    rw [t] at HK
    clear t
    go_enter Tryz.func15, Tryz.ntmps15
    go_upto_region 1 with fail
    generalize w.alloc (.cells #[.int .i64 0, .slice none 0 0, .slice none 0 0, .int .i64 0] 32) = wa at *
    go_wp2_with fail
    refine (HK.out wa BA.out).mono ?_
    rintro e w1 ⟨rfl, b1⟩
    have B1' : Hid (Below w.heap.size w w1) := BA.out.trans (b1.mono BA.out.size)
    obtain ⟨⟨r0, r1, r2, r3⟩, rf⟩ := HBad.out w1 (hz0 ▸ b1)
    clear b1
    go_wp2
    refine bodyPost_ret (v := .tuple #[stV 0 none 0 0 none 0 0 0, .int .i64 (-1)]) (by simp [results, Tryz.results15, go_sem, r0, r1, r2, r3]) rfl ⟨_, rfl, StOwn.nil _ _, ?_⟩
    exact (((B1'.out.setCell (Nat.le_refl _) _).setCell (Nat.le_refl _) _).setCell (Nat.le_refl _) _).setCell (Nat.le_refl _) _
  have HZ : Hid (inB z 0 m = true ↔ (0 ≤ z ∧ z ≤ (m : Int))) := by
    show _ ↔ _
    simp [inB]
  rcases Bool.eq_false_or_eq_true (inB z 0 m) with t1 | t1
  case inr =>
    have HV : Hid (¬ RsOk g n eh m q c z) := fun h => by
      rw [HZ.out.2 h.2] at t1
      cases t1
    rw [(rs_no HV.out).1, (rs_no HV.out).2]
    rw [t] at HK
    have HT1 : Hid (inB z 0 m = false) := t1
    clear t t1 HZ
    go_enter Tryz.func15, Tryz.ntmps15
    go_upto_region 1 with fail
    generalize w.alloc (.cells #[.int .i64 0, .slice none 0 0, .slice none 0 0, .int .i64 0] 32) = wa at *
    go_wp2_with fail
    refine (HK.out wa BA.out).mono ?_
    rintro e w1 ⟨rfl, b1⟩
    have B1' : Hid (Below w.heap.size w w1) := BA.out.trans (b1.mono BA.out.size)
    obtain ⟨⟨r0, r1, r2, r3⟩, rf⟩ := HBad.out w1 (hz0 ▸ b1)
    clear b1
    go_wp2_with fail
    refine (l1In_any _ _ _ _).mono ?_
    rintro e w2 ⟨rfl, rfl⟩
    rw [HT1.out]
    go_wp2
    refine bodyPost_ret (v := .tuple #[stV 0 none 0 0 none 0 0 0, .int .i64 (-1)]) (by simp [results, Tryz.results15, go_sem, r0, r1, r2, r3]) rfl ⟨_, rfl, StOwn.nil _ _, ?_⟩
    exact (((B1'.out.setCell (Nat.le_refl _) _).setCell (Nat.le_refl _) _).setCell (Nat.le_refl _) _).setCell (Nat.le_refl _) _
  have hK := pB_iff.1 t
  obtain ⟨a, j, S, Sm, hz, haj, hjm, hm2, hxa, hlt, hra, hrj, hrm, hpk, eS, eK⟩ := rs_yes (q := q) (z := z) ⟨hK, HZ.out.1 t1⟩
  rw [eS, eK]
  rw [t] at HK
  have HT1 : Hid (inB z 0 m = true) := t1
  have HPK : Hid (progOkB g n 4 = true) := hpk
  have HR : Hid (rp g n eh a = some (q (lastI q z c)).s ∧ rp g n eh j = some S ∧ rp g n eh m = some Sm) := ⟨hra, hrj, hrm⟩
  have HX : Hid ((q (lastI q z c)).n = a ∧ lastI q z c < c ∧ 0 < c) := ⟨hxa, hlt, hK.li.1⟩
  have HJ : Hid (a ≤ j ∧ j ≤ m ∧ m ≤ 200) := ⟨haj, hjm, hm2⟩
  have HXl : Hid ((q (lastI q z c)).rs.length ≤ 1048576 ∧ (q (lastI q z c)).os.length ≤ 1048576) := HL.out _ hlt
  clear hpk hra hrj hrm hxa hlt eS eK hK t haj hjm hm2 t1 HZ HBad
  subst hz
  go_enter Tryz.func15, Tryz.ntmps15
  go_upto_region 1 with fail
  generalize w.alloc (.cells #[.int .i64 0, .slice none 0 0, .slice none 0 0, .int .i64 0] 32) = wa at *
  go_wp2_with fail
  refine (HK.out wa BA.out).mono ?_
  rintro e w1 ⟨rfl, b1⟩
  have B1 : Hid (Below (w.heap.size + 1) wa w1 ∧ Below w.heap.size w w1) := ⟨hz0 ▸ b1, BA.out.trans (b1.mono BA.out.size)⟩
  clear b1 HK NB
  go_wp2_with fail
  refine (l1In_any _ _ _ _).mono ?_
  rintro e w2 ⟨rfl, rfl⟩
  rw [HT1.out]
  clear HT1
  go_wp2_with fail
  go_loopw [10, 11] (fun at' i wr => ∃ k : Nat, k ≤ c ∧ i = .int .i64 k ∧ at' = .int .i64 (lastI q (j : Int) k : Nat) ∧ Hid (Below (w.heap.size + 1) wa wr ∧ Below w.heap.size w wr)) (fun _ i _ => c - (intOf i).toNat)
  case atStart => exact ⟨0, Nat.zero_le _, rfl, rfl, B1.out⟩
  case round =>
    clear B1
    obtain ⟨k, hk, rfl, rfl, HB⟩ := hrel
    by_cases hlt : k < c
    · have hlt' : (k : Int) < (c : Int) := by omega
      obtain ⟨kb, ko, rfl, c0, -⟩ := (HA.out.below HB.out.2).at hlt
      have HI1 : Hid (lastI q (j : Int) (k + 1) = if (q k).n ≤ (j : Int) then k else lastI q (j : Int) k) := rfl
      rcases Bool.eq_false_or_eq_true (decide ((q k).n ≤ (j : Int))) with t | t
      · have HI' : Hid (lastI q (j : Int) (k + 1) = k) := by
          show lastI q (j : Int) (k + 1) = k
          rw [HI1.out, if_pos (of_decide_eq_true t)]
        go_wp2
        go_roundw
        case rel => exact ⟨k + 1, by omega, by go_num, by rw [HI'.out], HB.out⟩
        case measure => simp [intOf]; omega
      · have HI' : Hid (lastI q (j : Int) (k + 1) = lastI q (j : Int) k) := by
          show lastI q (j : Int) (k + 1) = lastI q (j : Int) k
          rw [HI1.out, if_neg (of_decide_eq_false t)]
        go_wp2
        go_roundw
        case rel => exact ⟨k + 1, by omega, by go_num, by rw [HI'.out], HB.out⟩
        case measure => simp [intOf]; omega
    · have hkc : k = c := by omega
      subst hkc
      have hlk := HX.out.2.1
      generalize hX : lastI q (j : Int) k = X at *
      obtain ⟨kb, ko, ekb, c0, c1, c2, c3, c4⟩ := (HA.out.below HB.out.2).at hlk
      have hxs := (HA.out.below HB.out.2).lst X hlk
      have HAx : Hid (∀ wx, Below w.heap.size w wx → wx.cell? ⟨kb, ko + X * 5, none⟩ = some (.int .i64 (q X).n)) := fun wx hb => by
        obtain ⟨kb', ko', e', d0, -⟩ := (HA.out.below hb).at hlk
        rw [ekb] at e'
        simp only [Option.some.injEq, Addr.mk.injEq, and_true] at e'
        obtain ⟨rfl, rfl⟩ := e'
        exact d0
      subst ekb
      have hlX : (X : Int) < (k : Int) := by omega
      rw [HX.out.1] at c0
      have hlt' : ¬ ((k : Int) < (k : Int)) := by omega
      generalize q X = x at *
      have HSx : Hid (Sl wr x.ra x.rs ∧ Sl wr x.oa x.os) := hxs
      clear hxs
      go_wp2_with fail
      refine (l2Copy_any x.p x.c x.ra x.oa x.rc x.oc x.rs x.os wr HXl.out.1 HXl.out.2 HSx.out.1 HSx.out.2).mono ?_
      rintro e w4 ⟨v4, rfl, o4, b4⟩
      obtain ⟨ra4, rc4, oa4, oc4, rfl, -, -⟩ := o4.read
      have D5 : Hid (Rl w (w4.alloc (.cells #[.int .i64 x.p, .slice ra4 x.rs.length rc4, .slice oa4 x.os.length oc4, .int .i64 x.c] 32)) w.heap.size w4.heap.size x.p x.c ra4 rc4 oa4 oc4 x.rs x.os) := HB0.out w4 (HB.out.1.trans (b4.mono (by have := HB.out.1.size; omega))) wr.heap.size x.s ra4 oa4 rc4 oc4 o4 (by have := HB.out.1.size; omega) b4.size
      clear o4 b4 HB0 c0 c1 c2 c3 c4
      go_upto_region 10 with fail
      generalize w4.alloc (.cells #[.int .i64 x.p, .slice ra4 x.rs.length rc4, .slice oa4 x.os.length oc4, .int .i64 x.c] 32) = w5 at *
      generalize w4.heap.size = Bs at *
      have c0 := HAx.out w5 D5.out.be
      rw [HX.out.1] at c0
      go_wp2_with fail
      clear c0
      have HKB : Hid (kb < w.heap.size) := World.block_lt_of_cell? w _ (HAx.out w (Below.refl _ _))
      clear hlX hlt'
      go_loopw [13] (fun i wr => ∃ k : Nat, a ≤ k ∧ k ≤ j ∧ i = .int .i64 k ∧ Hid (∃ (T : S4) (ra : Option Addr) (rc : Nat) (oa : Option Addr) (oc : Nat), rp g n eh k = some T ∧ Rl w wr w.heap.size Bs T.p T.c ra rc oa oc T.rs T.os)) (fun i _ => j - (intOf i).toNat)
      case atStart => exact ⟨a, Nat.le_refl _, HJ.out.1, rfl, x.s, _, _, _, _, HR.out.1, D5.out⟩
      case round =>
        clear D5
        obtain ⟨i, hai, hij, rfl, HD⟩ := hrel
        obtain ⟨T, ra, rc, oa, oc, hrp, hD⟩ := HD.out
        have DRk : Hid (Rl w wr w.heap.size Bs T.p T.c ra rc oa oc T.rs T.os) := hD
        have HRk : Hid (rp g n eh i = some T) := hrp
        clear HD hD hrp
        obtain ⟨b0, b1, b2, b3⟩ := DRk.out.tl.box
        by_cases hlt : i < j
        · have hlt' : (i : Int) < (j : Int) := by omega
          have hlm : i < m := by have := HJ.out; omega
          have hlm' : (i : Int) < (m : Int) := by omega
          obtain ⟨eb, eo, rfl, ze, k0, k1, k2⟩ := (HE.out.below DRk.out.be).at hlm
          have zB : Bs < wr.heap.size := DRk.out.tl.hi
          have hHeld : (fun w' : World => w'.cell? ⟨Bs, 0, none⟩ = some (.int .i64 T.p) ∧ w'.cell? ⟨Bs, 1, none⟩ = some (.slice ra T.rs.length rc) ∧ w'.cell? ⟨Bs, 2, none⟩ = some (.slice oa T.os.length oc) ∧ w'.cell? ⟨Bs, 3, none⟩ = some (.int .i64 T.c) ∧ w'.cell? ⟨eb, eo + i * 3, none⟩ = some (.int .i64 (eh i).k) ∧ w'.cell? ⟨eb, eo + i * 3 + 1, none⟩ = some (.int .i64 (eh i).q) ∧ w'.cell? ⟨eb, eo + i * 3 + 2, none⟩ = some (.int .i64 (eh i).v)) wr.drew := ⟨b0, b1, b2, b3, k0, k1, k2⟩
          have hnx := rp_next HRk.out HR.out.2.2 hlm
          have HNx : Hid (rp g n eh (i + 1) = some (doS g n T.p T.rs T.os T.c (eh i).k (eh i).q (eh i).v)) := hnx.2
          have HCl : Hid (Calls Tryz.prog 33 #[.slice (some ⟨gb, 0, none⟩) n gc, stV T.p ra T.rs.length rc oa T.os.length oc T.c, evV (eh i).k (eh i).q (eh i).v] wr.drew (DoneR wr.drew (doS g n T.p T.rs T.os T.c (eh i).k (eh i).q (eh i).v) true)) := rp_l2Do HPK.out HRk.out HR.out.2.2 hlm ra oa rc oc wr.drew (Nat.lt_of_lt_of_le hg DRk.out.be.size) (HI.out.below DRk.out.be.drew hg) (DRk.out.tl.below (Below.refl _ _).drew).sl.1 (DRk.out.tl.below (Below.refl _ _).drew).sl.2
          clear hnx b0 b1 b2 b3 k0 k1 k2
          go_upto_region 13 with fail
          refine wp_region_G (fun w' : World => w'.cell? ⟨Bs, 0, none⟩ = some (.int .i64 T.p) ∧ w'.cell? ⟨Bs, 1, none⟩ = some (.slice ra T.rs.length rc) ∧ w'.cell? ⟨Bs, 2, none⟩ = some (.slice oa T.os.length oc) ∧ w'.cell? ⟨Bs, 3, none⟩ = some (.int .i64 T.c) ∧ w'.cell? ⟨eb, eo + i * 3, none⟩ = some (.int .i64 (eh i).k) ∧ w'.cell? ⟨eb, eo + i * 3 + 1, none⟩ = some (.int .i64 (eh i).q) ∧ w'.cell? ⟨eb, eo + i * 3 + 2, none⟩ = some (.int .i64 (eh i).v)) (fun i => i == 10) (by kernel_rfl) ?_
          (try simp only [Act.put, List.setIfInBounds_toArray, List.set_cons_zero, List.set_cons_succ])
          refine wpG_take 0 rfl hHeld ?_
          apply Exists.intro
          refine ⟨fun wq hSw => ?_, ?_⟩
          · (try dsimp only at hSw)
            go_simp
            try with_reducible rfl
          (try simp only [Act.put, List.setIfInBounds_toArray, List.set_cons_zero, List.set_cons_succ])
          refine wpG_take 1 rfl hHeld ?_
          apply Exists.intro
          refine ⟨fun wq hSw => ?_, ?_⟩
          · (try dsimp only at hSw)
            go_simp
            try with_reducible rfl
          (try simp only [Act.put, List.setIfInBounds_toArray, List.set_cons_zero, List.set_cons_succ])
          refine wpG_take 2 rfl hHeld ?_
          apply Exists.intro
          refine ⟨fun wq hSw => ?_, ?_⟩
          · (try dsimp only at hSw)
            go_simp
            try with_reducible rfl
          (try simp only [Act.put, List.setIfInBounds_toArray, List.set_cons_zero, List.set_cons_succ])
          refine wpG_take 3 rfl hHeld ?_
          apply Exists.intro
          refine ⟨fun wq hSw => ?_, ?_⟩
          · (try dsimp only at hSw)
            go_simp
            try with_reducible rfl
          (try simp only [Act.put, List.setIfInBounds_toArray, List.set_cons_zero, List.set_cons_succ])
          refine wpG_take 4 rfl hHeld ?_
          apply Exists.intro
          refine ⟨fun wq hSw => ?_, ?_⟩
          · (try dsimp only at hSw)
            go_simp
            try with_reducible rfl
          (try simp only [Act.put, List.setIfInBounds_toArray, List.set_cons_zero, List.set_cons_succ])
          refine wpG_take 5 rfl hHeld ?_
          apply Exists.intro
          refine ⟨fun wq hSw => ?_, ?_⟩
          · (try dsimp only at hSw)
            go_simp
            try with_reducible rfl
          (try simp only [Act.put, List.setIfInBounds_toArray, List.set_cons_zero, List.set_cons_succ])
          refine wpG_one 6 rfl (by kernel_rfl) (fun K hK => ?_)
          refine stepR_callD (by rfl) 33 _ _ rfl #[.slice (some ⟨gb, 0, none⟩) n gc, stV T.p ra T.rs.length rc oa T.os.length oc T.c, evV (eh i).k (eh i).q (eh i).v] (by simp [Act.eval]) (run_enter Tryz.func33 (by kernel_rfl) rfl) HCl.out ?_
          rintro e w5 ⟨u5, rfl, o5, d5⟩
          refine ⟨_, rfl, ?_⟩
          have HN7 := HNx.out
          clear HNx HCl
          generalize doS g n T.p T.rs T.os T.c (eh i).k (eh i).q (eh i).v = T7 at o5 HN7
          obtain ⟨ra5, rc5, oa5, oc5, rfl, -, -⟩ := o5.read
          have q5 : Below wr.heap.size wr w5 := (Below.refl wr.heap.size wr).drew.trans d5
          have hc5 := (bcell q5).1
          have ze' : eb < wr.heap.size := ze
          have hHeld5 := And.intro ((hc5 _ _ zB).trans hHeld.1) (And.intro ((hc5 _ _ zB).trans hHeld.2.1) (And.intro ((hc5 _ _ zB).trans hHeld.2.2.1) (And.intro ((hc5 _ _ zB).trans hHeld.2.2.2.1) (And.intro ((hc5 _ _ ze').trans hHeld.2.2.2.2.1) (And.intro ((hc5 _ _ ze').trans hHeld.2.2.2.2.2.1) ((hc5 _ _ ze').trans hHeld.2.2.2.2.2.2))))))
          have hf5 : ∀ j, w5.frozen? ⟨Bs, j, none⟩ = false := fun j => ((bcell q5).2 _ j zB).trans (DRk.out.fz j)
          refine hK.out _ _ (fun _ => hHeld5) ?_
          clear hHeld
          have hHeld := hHeld5
          clear hHeld5 hc5 hK K
          (try simp only [Act.put, List.setIfInBounds_toArray, List.set_cons_zero, List.set_cons_succ])
          refine wpG_take 7 rfl hHeld ?_
          apply Exists.intro
          refine ⟨fun wq hSw => ?_, ?_⟩
          · (try dsimp only at hSw)
            go_simp
            try with_reducible rfl
          (try simp only [Act.put, List.setIfInBounds_toArray, List.set_cons_zero, List.set_cons_succ])
          refine wpG_take 8 rfl hHeld ?_
          apply Exists.intro
          refine ⟨fun wq hSw => ?_, ?_⟩
          · (try dsimp only at hSw)
            go_simp
            try with_reducible rfl
          (try simp only [Act.put, List.setIfInBounds_toArray, List.set_cons_zero, List.set_cons_succ])
          refine wpG_takeW 9 rfl (by kernel_rfl) (by kernel_rfl) (by kernel_rfl) (fun _ _ _ _ h => h) (by rfl) ?_
          apply Exists.intro
          refine ⟨fun wq => ?_, ?_⟩
          · go_simp
            try with_reducible rfl
          (try simp only [Act.put, List.setIfInBounds_toArray, List.set_cons_zero, List.set_cons_succ])
          refine wpG_one 10 rfl (by kernel_rfl) (fun K hK => ?_)
          obtain ⟨p0, p1, p2, p3, -⟩ := hHeld
          go_simp
          refine hK.out _ _ (fun h => ?_) ?_
          · exact absurd h (by decide)
          clear hK K
          (try simp only [Act.put])
          refine wpG_done (by kernel_rfl) ?_ _
          have HN9 : Hid (Rl w ((((w5.setCell ⟨Bs, 0, none⟩ (.int .i64 T7.p)).setCell ⟨Bs, 1, none⟩ (.slice ra5 T7.rs.length rc5)).setCell ⟨Bs, 2, none⟩ (.slice oa5 T7.os.length oc5)).setCell ⟨Bs, 3, none⟩ (.int .i64 T7.c)) w.heap.size Bs T7.p T7.c ra5 rc5 oa5 oc5 T7.rs T7.os) := (DRk.out.below q5).next o5 (by simpa using zB)
          clear o5 d5 q5 p0 p1 p2 p3 hf5
          go_wp2
          go_roundw
          case rel => exact ⟨i + 1, by omega, by omega, by go_num, T7, _, _, _, _, HN7, HN9.out⟩
          case measure => simp [intOf]; omega
        · have hkj : i = j := by omega
          subst hkj
          have hTS : T = S := by
            have h1 := HRk.out
            rw [HR.out.2.1] at h1
            injection h1 with h1
            exact h1.symm
          subst hTS
          obtain ⟨r0, r1, r2, r3⟩ := DRk.out.rb
          have rf := DRk.out.rf
          have f0 := HAx.out wr DRk.out.be
          rw [HX.out.1] at f0
          have dn : Bs ≠ w.heap.size := by have := DRk.out.tl.lo; omega
          have nf2 : w.heap.size ≠ kb := by have := HKB.out; omega
          have nf3 : kb ≠ w.heap.size := fun e => nf2 e.symm
          have hlX : (X : Int) < (k : Int) := by omega
          have ha0 : (a : Int) ≤ 200 := by have := HJ.out; omega
          have hj0 : (i : Int) ≤ 200 := by have := HJ.out; omega
          have hlt' : ¬ ((i : Int) < (i : Int)) := by omega
          go_wp2_with fail
          go_region
          go_wp2
          refine bodyPost_ret (v := .tuple #[stV T.p ra T.rs.length rc oa T.os.length oc T.c, .int .i64 ((i : Int) - (a : Int))]) (by simp [results, Tryz.results15, go_sem, r0, r1, r2, r3]) rfl ⟨_, rfl, ?_, ?_⟩
          · exact StOwn.dr (DRk.out.done _ _ _ _).2
          · exact Below.drew (DRk.out.done _ _ _ _).1

end Go.Proofs.YtcmmlklanjhfoaaGreatDoor
