/- What is restored hangs on the numbers and states alone. -/
import Derived.Test.YtkoghgnbolaooaaGreatRa37
import Derived.Test.YtkoghgnbolaooaaGreatRa38
import Derived.Test.YtkoghgnbolaooaaGreatRa39
namespace Go.Proofs.YtkoghgnbolaooaaGreat
open Go.ChangeShapes Go.WideShapes Go.ChangeAt Go.RowKit Go.Deep Go.Sort

/-- Where one event more comes, what the model does there. -/
theorem rp_l2Do {gb n gc : Nat} {g : Nat → I5} {eh : Nat → E3} {k m : Nat} {T Sm : S4} (hp : progOkB g n 4 = true) (h : rp g n eh k = some T) (hm : rp g n eh m = some Sm) (hk : k < m) (ra oa : Option Addr) (rc oc : Nat) (w : World) (hb : gb < w.heap.size) (hI : InsAt w gb 0 n g) (h1 : Sl w ra T.rs) (h2 : Sl w oa T.os) :
    Calls Tryz.prog 40 #[.slice (some ⟨gb, 0, none⟩) n gc, stV T.p ra T.rs.length rc oa T.os.length oc T.c, evV (eh k).k (eh k).q (eh k).v] w (DoneR w (doS g n T.p T.rs T.os T.c (eh k).k (eh k).q (eh k).v) true) := by
  have hn := rp_next h hm hk
  have hc : T.c = 0 := by
    by_cases e : T.c = 0
    · exact e
    · rw [doB_code e] at hn
      cases hn.1
  have hr := right_of hp (rp_ok hp k T h) hc
  obtain ⟨p, rs, os, cc⟩ := T
  dsimp only at hc hr hn h1 h2 ⊢
  subst hc
  obtain ⟨-, ⟨pk, hpk, -⟩, -, -⟩ := st_parts (right_parts hr).2.1
  subst hpk
  rw [← hn.1]
  exact l2Do_any gb 0 n gc pk g ra oa rc oc rs os _ _ _ w hb hI h1 h2 hr

set_option maxRecDepth 100000 in
set_option maxHeartbeats 2000000 in
theorem specRestore_any (gb n gc : Nat) (ea : Option Addr) (m ec : Nat) (ka : Option Addr) (c kc : Nat) (g : Nat → I5) (eh : Nat → E3) (q : Nat → K9) (z : Int) (w : World) (hn : n ≤ maxLen) (hg : gb < w.heap.size) (hI : InsAt w gb 0 n g) (hE : EvL w ea m eh) (hm : m ≤ 1048576) (hec : m ≤ ec) (hc : c ≤ 1048576) (hA : AllKept w ka c q) (hl : ∀ i, i < c → (q i).rs.length ≤ 1048576 ∧ (q i).os.length ≤ 1048576) :
    Calls Tryz.prog 19 #[.slice (some ⟨gb, 0, none⟩) n gc, .slice ea m ec, .slice ka c kc, .int .i64 z] w (ResR w (rsS g n eh m q c z) (rsK g n eh m q c z)) := by
  have hm' : (m : Int) ≤ 1048576 := by omega
  have hc' : (c : Int) ≤ 1048576 := by omega
  have HI : Hid (InsAt w gb 0 n g) := hI
  have HE : Hid (EvL w ea m eh) := hE
  have HN : Hid (n ≤ maxLen) := hn
  have HA : Hid (AllKept w ka c q) := hA
  have HL : Hid (∀ i, i < c → (q i).rs.length ≤ 1048576 ∧ (q i).os.length ≤ 1048576) := hl
  have BA : Hid (Below w.heap.size w (w.alloc (.cells #[.int .i64 0, .slice none 0 0, .slice none 0 0, .int .i64 0] 43))) := below_alloc _ _
  have NB : Hid (BoxC (w.alloc (.cells #[.int .i64 0, .slice none 0 0, .slice none 0 0, .int .i64 0] 43)) w.heap.size (.int .i64 0) (.slice none 0 0) (.slice none 0 0) (.int .i64 0) ∧ ∀ j, (w.alloc (.cells #[.int .i64 0, .slice none 0 0, .slice none 0 0, .int .i64 0] 43)).frozen? ⟨w.heap.size, j, none⟩ = false) := ⟨BoxC.new w _ _ _ _ _, fun j => new_frozen _ _ _ j rfl⟩
  have HK : Hid (∀ wx, Below w.heap.size w wx → Calls Tryz.prog 37 #[.slice (some ⟨gb, 0, none⟩) n gc, .slice ea m ec, .slice ka c kc] wx fun e w' => e = .returned (.bool (pB (KpOk g n eh m q c))) ∧ Below wx.heap.size wx w') := fun wx hb => specKeptOk_any gb n gc ea m ec ka c kc g eh q wx hn (Nat.lt_of_lt_of_le hg hb.size) (hI.below hb hg) (hE.below hb) hm hec hc (hA.below hb) hl
  have hz0 : (w.alloc (.cells #[.int .i64 0, .slice none 0 0, .slice none 0 0, .int .i64 0] 43)).heap.size = w.heap.size + 1 := by simp
  have HB0 : Hid (∀ w4, Below (w.heap.size + 1) (w.alloc (.cells #[.int .i64 0, .slice none 0 0, .slice none 0 0, .int .i64 0] 43)) w4 → ∀ (B4 : Nat) (S : S4) (ra oa : Option Addr) (rc oc : Nat), StOwn w4 B4 (stV S.p ra S.rs.length rc oa S.os.length oc S.c) S.p S.rs S.os S.c → w.heap.size + 1 ≤ B4 → B4 ≤ w4.heap.size → Rl w (w4.alloc (.cells #[.int .i64 S.p, .slice ra S.rs.length rc, .slice oa S.os.length oc, .int .i64 S.c] 43)) w.heap.size w4.heap.size S.p S.c ra rc oa oc S.rs S.os) := fun w4 b B4 S ra oa rc oc o h1 h2 => Rl.start b o h1 h2
  clear hI hE hn hA hl
  have HBad : Hid (∀ w1, Below (w.heap.size + 1) (w.alloc (.cells #[.int .i64 0, .slice none 0 0, .slice none 0 0, .int .i64 0] 43)) w1 → BoxC w1 w.heap.size (.int .i64 0) (.slice none 0 0) (.slice none 0 0) (.int .i64 0) ∧ ∀ j, w1.frozen? ⟨w.heap.size, j, none⟩ = false) := fun w1 b => by
    have eR := b.block w.heap.size (by omega)
    obtain ⟨⟨a0, a1, a2, a3⟩, af⟩ := NB.out
    exact ⟨⟨(World.cell?_of_block eR).trans a0, (World.cell?_of_block eR).trans a1, (World.cell?_of_block eR).trans a2, (World.cell?_of_block eR).trans a3⟩, fun j => (World.frozen?_of_block eR).trans (af j)⟩
  rcases Bool.eq_false_or_eq_true (pB (KpOk g n eh m q c)) with t | t
  case inr =>
    have HV : Hid (¬ RsOk g n eh m q c z) := fun h => by
      rw [pB_true h.1] at t
      cases t
    rw [(rs_no HV.out).1, (rs_no HV.out).2]
    rw [t] at HK
    clear t
    go_enter Tryz.func19, Tryz.ntmps19
    go_upto_region 1 with fail
    generalize w.alloc (.cells #[.int .i64 0, .slice none 0 0, .slice none 0 0, .int .i64 0] 43) = wa at *
    go_wp2_with fail
    refine (HK.out wa BA.out).mono ?_
    rintro e w1 ⟨rfl, b1⟩
    have B1' : Hid (Below w.heap.size w w1) := BA.out.trans (b1.mono BA.out.size)
    obtain ⟨⟨r0, r1, r2, r3⟩, rf⟩ := HBad.out w1 (hz0 ▸ b1)
    clear b1
    go_wp2
    refine bodyPost_ret (v := .tuple #[stV 0 none 0 0 none 0 0 0, .int .i64 (-1)]) (by simp [results, Tryz.results19, go_sem, r0, r1, r2, r3]) rfl ⟨_, rfl, StOwn.nil _ _, ?_⟩
    exact (((B1'.out.setCell (Nat.le_refl _) _).setCell (Nat.le_refl _) _).setCell (Nat.le_refl _) _).setCell (Nat.le_refl _) _
  have HZ : Hid (inB z 0 m = true ↔ (0 ≤ z ∧ z ≤ (m : Int))) := by
    show _ ↔ _
    simp [inB]
  rcases Bool.eq_false_or_eq_true (inB z 0 m) with t1 | t1
  case inr =>
    have HV : Hid (¬ RsOk g n eh m q c z) := fun h => by
      rw [HZ.out.2 h.2] at t1
      cases t1
    rw [(rs_no HV.out).1, (rs_no HV.out).2]
    rw [t] at HK
    have HT1 : Hid (inB z 0 m = false) := t1
    clear t t1 HZ
    go_enter Tryz.func19, Tryz.ntmps19
    go_upto_region 1 with fail
    generalize w.alloc (.cells #[.int .i64 0, .slice none 0 0, .slice none 0 0, .int .i64 0] 43) = wa at *
    go_wp2_with fail
    refine (HK.out wa BA.out).mono ?_
    rintro e w1 ⟨rfl, b1⟩
    have B1' : Hid (Below w.heap.size w w1) := BA.out.trans (b1.mono BA.out.size)
    obtain ⟨⟨r0, r1, r2, r3⟩, rf⟩ := HBad.out w1 (hz0 ▸ b1)
    clear b1
    go_wp2_with fail
    refine (l1In_any _ _ _ _).mono ?_
    rintro e w2 ⟨rfl, rfl⟩
    rw [HT1.out]
    go_wp2
    refine bodyPost_ret (v := .tuple #[stV 0 none 0 0 none 0 0 0, .int .i64 (-1)]) (by simp [results, Tryz.results19, go_sem, r0, r1, r2, r3]) rfl ⟨_, rfl, StOwn.nil _ _, ?_⟩
    exact (((B1'.out.setCell (Nat.le_refl _) _).setCell (Nat.le_refl _) _).setCell (Nat.le_refl _) _).setCell (Nat.le_refl _) _
  have hK := pB_iff.1 t
  obtain ⟨a, j, S, Sm, hz, haj, hjm, hm2, hxa, hlt, hra, hrj, hrm, hpk, eS, eK⟩ := rs_yes (q := q) (z := z) ⟨hK, HZ.out.1 t1⟩
  rw [eS, eK]
  rw [t] at HK
  have HT1 : Hid (inB z 0 m = true) := t1
  have HPK : Hid (progOkB g n 4 = true) := hpk
  have HR : Hid (rp g n eh a = some (q (lastI q z c)).s ∧ rp g n eh j = some S ∧ rp g n eh m = some Sm) := ⟨hra, hrj, hrm⟩
  have HX : Hid ((q (lastI q z c)).n = a ∧ lastI q z c < c ∧ 0 < c) := ⟨hxa, hlt, hK.li.1⟩
  have HJ : Hid (a ≤ j ∧ j ≤ m ∧ m ≤ 200) := ⟨haj, hjm, hm2⟩
  have HXl : Hid ((q (lastI q z c)).rs.length ≤ 1048576 ∧ (q (lastI q z c)).os.length ≤ 1048576) := HL.out _ hlt
  clear hpk hra hrj hrm hxa hlt eS eK hK t haj hjm hm2 t1 HZ HBad
  subst hz
  go_enter Tryz.func19, Tryz.ntmps19
  go_upto_region 1 with fail
  generalize w.alloc (.cells #[.int .i64 0, .slice none 0 0, .slice none 0 0, .int .i64 0] 43) = wa at *
  go_wp2_with fail
  refine (HK.out wa BA.out).mono ?_
  rintro e w1 ⟨rfl, b1⟩
  have B1 : Hid (Below (w.heap.size + 1) wa w1 ∧ Below w.heap.size w w1) := ⟨hz0 ▸ b1, BA.out.trans (b1.mono BA.out.size)⟩
  clear b1 HK NB
  go_wp2_with fail
  refine (l1In_any _ _ _ _).mono ?_
  rintro e w2 ⟨rfl, rfl⟩
  rw [HT1.out]
  clear HT1
  go_wp2_with fail
  go_loopw [10, 11] (fun at' i wr => ∃ k : Nat, k ≤ c ∧ i = .int .i64 k ∧ at' = .int .i64 (lastI q (j : Int) k : Nat) ∧ Hid (Below (w.heap.size + 1) wa wr ∧ Below w.heap.size w wr)) (fun _ i _ => c - (intOf i).toNat)
  case atStart => exact ⟨0, Nat.zero_le _, rfl, rfl, B1.out⟩
  case round =>
    clear B1
    obtain ⟨k, hk, rfl, rfl, HB⟩ := hrel
    by_cases hlt : k < c
    · have hlt' : (k : Int) < (c : Int) := by omega
      obtain ⟨kb, ko, rfl, c0, -⟩ := (HA.out.below HB.out.2).at hlt
      have HI1 : Hid (lastI q (j : Int) (k + 1) = if (q k).n ≤ (j : Int) then k else lastI q (j : Int) k) := rfl
      rcases Bool.eq_false_or_eq_true (decide ((q k).n ≤ (j : Int))) with t | t
      · have HI' : Hid (lastI q (j : Int) (k + 1) = k) := by
          show lastI q (j : Int) (k + 1) = k
          rw [HI1.out, if_pos (of_decide_eq_true t)]
        go_wp2
        go_roundw
        case rel => exact ⟨k + 1, by omega, by go_num, by rw [HI'.out], HB.out⟩
        case measure => simp [intOf]; omega
      · have HI' : Hid (lastI q (j : Int) (k + 1) = lastI q (j : Int) k) := by
          show lastI q (j : Int) (k + 1) = lastI q (j : Int) k
          rw [HI1.out, if_neg (of_decide_eq_false t)]
        go_wp2
        go_roundw
        case rel => exact ⟨k + 1, by omega, by go_num, by rw [HI'.out], HB.out⟩
        case measure => simp [intOf]; omega
    · have hkc : k = c := by omega
      subst hkc
      have hlk := HX.out.2.1
      generalize hX : lastI q (j : Int) k = X at *
      obtain ⟨kb, ko, ekb, c0, c1, c2, c3, c4⟩ := (HA.out.below HB.out.2).at hlk
      have hxs := (HA.out.below HB.out.2).lst X hlk
      have HAx : Hid (∀ wx, Below w.heap.size w wx → wx.cell? ⟨kb, ko + X * 5, none⟩ = some (.int .i64 (q X).n)) := fun wx hb => by
        obtain ⟨kb', ko', e', d0, -⟩ := (HA.out.below hb).at hlk
        rw [ekb] at e'
        simp only [Option.some.injEq, Addr.mk.injEq, and_true] at e'
        obtain ⟨rfl, rfl⟩ := e'
        exact d0
      subst ekb
      have hlX : (X : Int) < (k : Int) := by omega
      rw [HX.out.1] at c0
      have hlt' : ¬ ((k : Int) < (k : Int)) := by omega
      generalize q X = x at *
      have HSx : Hid (Sl wr x.ra x.rs ∧ Sl wr x.oa x.os) := hxs
      clear hxs
      go_wp2_with fail
      refine (l2Copy_any x.p x.c x.ra x.oa x.rc x.oc x.rs x.os wr HXl.out.1 HXl.out.2 HSx.out.1 HSx.out.2).mono ?_
      rintro e w4 ⟨v4, rfl, o4, b4⟩
      obtain ⟨ra4, rc4, oa4, oc4, rfl, -, -⟩ := o4.read
      have D5 : Hid (Rl w (w4.alloc (.cells #[.int .i64 x.p, .slice ra4 x.rs.length rc4, .slice oa4 x.os.length oc4, .int .i64 x.c] 43)) w.heap.size w4.heap.size x.p x.c ra4 rc4 oa4 oc4 x.rs x.os) := HB0.out w4 (HB.out.1.trans (b4.mono (by have := HB.out.1.size; omega))) wr.heap.size x.s ra4 oa4 rc4 oc4 o4 (by have := HB.out.1.size; omega) b4.size
      clear o4 b4 HB0 c0 c1 c2 c3 c4
      go_upto_region 10 with fail
      generalize w4.alloc (.cells #[.int .i64 x.p, .slice ra4 x.rs.length rc4, .slice oa4 x.os.length oc4, .int .i64 x.c] 43) = w5 at *
      generalize w4.heap.size = Bs at *
      have c0 := HAx.out w5 D5.out.be
      rw [HX.out.1] at c0
      go_wp2_with fail
      clear c0
      have HKB : Hid (kb < w.heap.size) := World.block_lt_of_cell? w _ (HAx.out w (Below.refl _ _))
      clear hlX hlt'
      go_loopw [13] (fun i wr => ∃ k : Nat, a ≤ k ∧ k ≤ j ∧ i = .int .i64 k ∧ Hid (∃ (T : S4) (ra : Option Addr) (rc : Nat) (oa : Option Addr) (oc : Nat), rp g n eh k = some T ∧ Rl w wr w.heap.size Bs T.p T.c ra rc oa oc T.rs T.os)) (fun i _ => j - (intOf i).toNat)
      case atStart => exact ⟨a, Nat.le_refl _, HJ.out.1, rfl, x.s, _, _, _, _, HR.out.1, D5.out⟩
      case round =>
        clear D5
        obtain ⟨i, hai, hij, rfl, HD⟩ := hrel
        obtain ⟨T, ra, rc, oa, oc, hrp, hD⟩ := HD.out
        have DRk : Hid (Rl w wr w.heap.size Bs T.p T.c ra rc oa oc T.rs T.os) := hD
        have HRk : Hid (rp g n eh i = some T) := hrp
        clear HD hD hrp
        obtain ⟨b0, b1, b2, b3⟩ := DRk.out.tl.box
        by_cases hlt : i < j
        · have hlt' : (i : Int) < (j : Int) := by omega
          have hlm : i < m := by have := HJ.out; omega
          have hlm' : (i : Int) < (m : Int) := by omega
          obtain ⟨eb, eo, rfl, ze, k0, k1, k2⟩ := (HE.out.below DRk.out.be).at hlm
          have zB : Bs < wr.heap.size := DRk.out.tl.hi
          have hHeld : (fun w' : World => w'.cell? ⟨Bs, 0, none⟩ = some (.int .i64 T.p) ∧ w'.cell? ⟨Bs, 1, none⟩ = some (.slice ra T.rs.length rc) ∧ w'.cell? ⟨Bs, 2, none⟩ = some (.slice oa T.os.length oc) ∧ w'.cell? ⟨Bs, 3, none⟩ = some (.int .i64 T.c) ∧ w'.cell? ⟨eb, eo + i * 3, none⟩ = some (.int .i64 (eh i).k) ∧ w'.cell? ⟨eb, eo + i * 3 + 1, none⟩ = some (.int .i64 (eh i).q) ∧ w'.cell? ⟨eb, eo + i * 3 + 2, none⟩ = some (.int .i64 (eh i).v)) wr.drew := ⟨b0, b1, b2, b3, k0, k1, k2⟩
          have hnx := rp_next HRk.out HR.out.2.2 hlm
          have HNx : Hid (rp g n eh (i + 1) = some (doS g n T.p T.rs T.os T.c (eh i).k (eh i).q (eh i).v)) := hnx.2
          have HCl : Hid (Calls Tryz.prog 40 #[.slice (some ⟨gb, 0, none⟩) n gc, stV T.p ra T.rs.length rc oa T.os.length oc T.c, evV (eh i).k (eh i).q (eh i).v] wr.drew (DoneR wr.drew (doS g n T.p T.rs T.os T.c (eh i).k (eh i).q (eh i).v) true)) := rp_l2Do HPK.out HRk.out HR.out.2.2 hlm ra oa rc oc wr.drew (Nat.lt_of_lt_of_le hg DRk.out.be.size) (HI.out.below DRk.out.be.drew hg) (DRk.out.tl.below (Below.refl _ _).drew).sl.1 (DRk.out.tl.below (Below.refl _ _).drew).sl.2
          clear hnx b0 b1 b2 b3 k0 k1 k2
          go_upto_region 13 with fail
          refine wp_region_G (fun w' : World => w'.cell? ⟨Bs, 0, none⟩ = some (.int .i64 T.p) ∧ w'.cell? ⟨Bs, 1, none⟩ = some (.slice ra T.rs.length rc) ∧ w'.cell? ⟨Bs, 2, none⟩ = some (.slice oa T.os.length oc) ∧ w'.cell? ⟨Bs, 3, none⟩ = some (.int .i64 T.c) ∧ w'.cell? ⟨eb, eo + i * 3, none⟩ = some (.int .i64 (eh i).k) ∧ w'.cell? ⟨eb, eo + i * 3 + 1, none⟩ = some (.int .i64 (eh i).q) ∧ w'.cell? ⟨eb, eo + i * 3 + 2, none⟩ = some (.int .i64 (eh i).v)) (fun i => i == 10) (by kernel_rfl) ?_
          (try simp only [Act.put, List.setIfInBounds_toArray, List.set_cons_zero, List.set_cons_succ])
          refine wpG_take 0 rfl hHeld ?_
          apply Exists.intro
          refine ⟨fun wq hSw => ?_, ?_⟩
          · (try dsimp only at hSw)
            go_simp
            try with_reducible rfl
          (try simp only [Act.put, List.setIfInBounds_toArray, List.set_cons_zero, List.set_cons_succ])
          refine wpG_take 1 rfl hHeld ?_
          apply Exists.intro
          refine ⟨fun wq hSw => ?_, ?_⟩
          · (try dsimp only at hSw)
            go_simp
            try with_reducible rfl
          (try simp only [Act.put, List.setIfInBounds_toArray, List.set_cons_zero, List.set_cons_succ])
          refine wpG_take 2 rfl hHeld ?_
          apply Exists.intro
          refine ⟨fun wq hSw => ?_, ?_⟩
          · (try dsimp only at hSw)
            go_simp
            try with_reducible rfl
          (try simp only [Act.put, List.setIfInBounds_toArray, List.set_cons_zero, List.set_cons_succ])
          refine wpG_take 3 rfl hHeld ?_
          apply Exists.intro
          refine ⟨fun wq hSw => ?_, ?_⟩
          · (try dsimp only at hSw)
            go_simp
            try with_reducible rfl
          (try simp only [Act.put, List.setIfInBounds_toArray, List.set_cons_zero, List.set_cons_succ])
          refine wpG_take 4 rfl hHeld ?_
          apply Exists.intro
          refine ⟨fun wq hSw => ?_, ?_⟩
          · (try dsimp only at hSw)
            go_simp
            try with_reducible rfl
          (try simp only [Act.put, List.setIfInBounds_toArray, List.set_cons_zero, List.set_cons_succ])
          refine wpG_take 5 rfl hHeld ?_
          apply Exists.intro
          refine ⟨fun wq hSw => ?_, ?_⟩
          · (try dsimp only at hSw)
            go_simp
            try with_reducible rfl
          (try simp only [Act.put, List.setIfInBounds_toArray, List.set_cons_zero, List.set_cons_succ])
          refine wpG_one 6 rfl (by kernel_rfl) (fun K hK => ?_)
          refine stepR_callD (by rfl) 40 _ _ rfl #[.slice (some ⟨gb, 0, none⟩) n gc, stV T.p ra T.rs.length rc oa T.os.length oc T.c, evV (eh i).k (eh i).q (eh i).v] (by simp [Act.eval]) (run_enter Tryz.func40 (by kernel_rfl) rfl) HCl.out ?_
          rintro e w5 ⟨u5, rfl, o5, d5⟩
          refine ⟨_, rfl, ?_⟩
          have HN7 := HNx.out
          clear HNx HCl
          generalize doS g n T.p T.rs T.os T.c (eh i).k (eh i).q (eh i).v = T7 at o5 HN7
          obtain ⟨ra5, rc5, oa5, oc5, rfl, -, -⟩ := o5.read
          have q5 : Below wr.heap.size wr w5 := (Below.refl wr.heap.size wr).drew.trans d5
          have hc5 := (bcell q5).1
          have ze' : eb < wr.heap.size := ze
          have hHeld5 := And.intro ((hc5 _ _ zB).trans hHeld.1) (And.intro ((hc5 _ _ zB).trans hHeld.2.1) (And.intro ((hc5 _ _ zB).trans hHeld.2.2.1) (And.intro ((hc5 _ _ zB).trans hHeld.2.2.2.1) (And.intro ((hc5 _ _ ze').trans hHeld.2.2.2.2.1) (And.intro ((hc5 _ _ ze').trans hHeld.2.2.2.2.2.1) ((hc5 _ _ ze').trans hHeld.2.2.2.2.2.2))))))
          have hf5 : ∀ j, w5.frozen? ⟨Bs, j, none⟩ = false := fun j => ((bcell q5).2 _ j zB).trans (DRk.out.fz j)
          refine hK.out _ _ (fun _ => hHeld5) ?_
          clear hHeld
          have hHeld := hHeld5
          clear hHeld5 hc5 hK K
          (try simp only [Act.put, List.setIfInBounds_toArray, List.set_cons_zero, List.set_cons_succ])
          refine wpG_take 7 rfl hHeld ?_
          apply Exists.intro
          refine ⟨fun wq hSw => ?_, ?_⟩
          · (try dsimp only at hSw)
            go_simp
            try with_reducible rfl
          (try simp only [Act.put, List.setIfInBounds_toArray, List.set_cons_zero, List.set_cons_succ])
          refine wpG_take 8 rfl hHeld ?_
          apply Exists.intro
          refine ⟨fun wq hSw => ?_, ?_⟩
          · (try dsimp only at hSw)
            go_simp
            try with_reducible rfl
          (try simp only [Act.put, List.setIfInBounds_toArray, List.set_cons_zero, List.set_cons_succ])
          refine wpG_takeW 9 rfl (by kernel_rfl) (by kernel_rfl) (by kernel_rfl) (fun _ _ _ _ h => h) (by rfl) ?_
          apply Exists.intro
          refine ⟨fun wq => ?_, ?_⟩
          · go_simp
            try with_reducible rfl
          (try simp only [Act.put, List.setIfInBounds_toArray, List.set_cons_zero, List.set_cons_succ])
          refine wpG_one 10 rfl (by kernel_rfl) (fun K hK => ?_)
          obtain ⟨p0, p1, p2, p3, -⟩ := hHeld
          go_simp
          refine hK.out _ _ (fun h => ?_) ?_
          · exact absurd h (by decide)
          clear hK K
          (try simp only [Act.put])
          refine wpG_done (by kernel_rfl) ?_ _
          have HN9 : Hid (Rl w ((((w5.setCell ⟨Bs, 0, none⟩ (.int .i64 T7.p)).setCell ⟨Bs, 1, none⟩ (.slice ra5 T7.rs.length rc5)).setCell ⟨Bs, 2, none⟩ (.slice oa5 T7.os.length oc5)).setCell ⟨Bs, 3, none⟩ (.int .i64 T7.c)) w.heap.size Bs T7.p T7.c ra5 rc5 oa5 oc5 T7.rs T7.os) := (DRk.out.below q5).next o5 (by simpa using zB)
          clear o5 d5 q5 p0 p1 p2 p3 hf5
          go_wp2
          go_roundw
          case rel => exact ⟨i + 1, by omega, by omega, by go_num, T7, _, _, _, _, HN7, HN9.out⟩
          case measure => simp [intOf]; omega
        · have hkj : i = j := by omega
          subst hkj
          have hTS : T = S := by
            have h1 := HRk.out
            rw [HR.out.2.1] at h1
            injection h1 with h1
            exact h1.symm
          subst hTS
          obtain ⟨r0, r1, r2, r3⟩ := DRk.out.rb
          have rf := DRk.out.rf
          have f0 := HAx.out wr DRk.out.be
          rw [HX.out.1] at f0
          have dn : Bs ≠ w.heap.size := by have := DRk.out.tl.lo; omega
          have nf2 : w.heap.size ≠ kb := by have := HKB.out; omega
          have nf3 : kb ≠ w.heap.size := fun e => nf2 e.symm
          have hlX : (X : Int) < (k : Int) := by omega
          have ha0 : (a : Int) ≤ 200 := by have := HJ.out; omega
          have hj0 : (i : Int) ≤ 200 := by have := HJ.out; omega
          have hlt' : ¬ ((i : Int) < (i : Int)) := by omega
          go_wp2_with fail
          go_region
          go_wp2
          refine bodyPost_ret (v := .tuple #[stV T.p ra T.rs.length rc oa T.os.length oc T.c, .int .i64 ((i : Int) - (a : Int))]) (by simp [results, Tryz.results19, go_sem, r0, r1, r2, r3]) rfl ⟨_, rfl, ?_, ?_⟩
          · exact StOwn.dr (DRk.out.done _ _ _ _).2
          · exact Below.drew (DRk.out.done _ _ _ _).1

end Go.Proofs.YtkoghgnbolaooaaGreat

namespace Go.Proofs.YtkoghgnbolaooaaGreat
open Go.ChangeShapes Go.WideShapes Go.ChangeAt Go.RowKit Go.Deep

theorem RsOk.congr {g : Nat → I5} {n m c : Nat} {eh : Nat → E3} {q q' : Nat → K9} {z : Int} (h : ∀ i, (q' i).n = (q i).n ∧ (q' i).s = (q i).s) : RsOk g n eh m q' c z ↔ RsOk g n eh m q c z := and_congr_left fun _ => KpOk.congr h
theorem rs_congr {g : Nat → I5} {n m c : Nat} {eh : Nat → E3} {q q' : Nat → K9} {z : Int} (h : ∀ i, (q' i).n = (q i).n ∧ (q' i).s = (q i).s) : rsS g n eh m q' c z = rsS g n eh m q c z ∧ rsK g n eh m q' c z = rsK g n eh m q c z := by
  unfold rsS rsK
  rw [propext (RsOk.congr h), lastI_congr z (fun i => (h i).1), (h _).1]
  exact ⟨rfl, rfl⟩

end Go.Proofs.YtkoghgnbolaooaaGreat
