/- The walk of the program's KeptOk. -/
import Derived.Test.YtcmmlklanjhfoaaGreatDoorGa33
import Derived.Test.YtcmmlklanjhfoaaGreatDoorGa36
import Derived.Lib.QuietBelow
import Derived.Deep.RegionWith
namespace Go.Proofs.YtcmmlklanjhfoaaGreatDoor
open Go.RowKit Go.Sort Go.Maps

/-- The run stands while another block, X, turns. -/
theorem Rn.keepX {w wr w' : World} {A B C gb n gc k X : Nat} {p code : Int} {ra : Option Addr} {rc : Nat} {oa : Option Addr} {oc : Nat} {rs os : List Int} (h : Rn w wr A B C gb n gc k p code ra rc oa oc rs os) (hX : X ≠ A ∧ X ≠ B ∧ X ≠ C ∧ w.heap.size ≤ X) (hn : ¬ hasBlock (stV p ra rs.length rc oa os.length oc code) X) (hg : wr.grownBy w' (some X)) : Rn w w' A B C gb n gc k p code ra rc oa oc rs os := by
  have hb : ∀ i, i < wr.heap.size → i ≠ X → w'.heap[i]? = wr.heap[i]? := fun i hi hne => hg.block i hi fun e => hne (by injection e)
  have eA := hb A (World.block_lt_of_cell? wr _ h.la) (fun e => hX.1 e.symm)
  have eB := hb B h.tl.hi (fun e => hX.2.1 e.symm)
  have eC := hb C (World.block_lt_of_cell? wr _ h.ck) (fun e => hX.2.2.1 e.symm)
  obtain ⟨t0, t1, t2, t3⟩ := h.tl.box
  have o' : StOwn w' w.heap.size (stV p ra rs.length rc oa os.length oc code) p rs os code := h.tl.own.blk fun i hi => hb i (h.tl.own.lt hi).2 fun e => hn (e ▸ hi)
  exact ⟨(World.cell?_of_block eA).trans h.la, ⟨h.tl.lo, Nat.lt_of_lt_of_le h.tl.hi hg.size, Nat.le_refl _, ⟨(World.cell?_of_block eB).trans t0, (World.cell?_of_block eB).trans t1, (World.cell?_of_block eB).trans t2, (World.cell?_of_block eB).trans t3⟩, o', fun i hi => (o'.lt hi).2, h.tl.ne⟩, fun j => (World.frozen?_of_block eB).trans (h.fb j), (World.cell?_of_block eC).trans h.ck, (World.frozen?_of_block eC).trans h.fc, h.ne, h.nh, Below.grown h.be hg h.be.size (fun j hj => by cases hj; exact hX.2.2.2)⟩

theorem StOwn.up {w : World} {B T : Nat} {v : Value} {p code : Int} {rs os : List Int} (h : StOwn w B v p rs os code) (hj : ∀ j, hasBlock v j → T ≤ j) : StOwn w T v p rs os code := by
  obtain ⟨vr, vo, rfl, h1, h2, h3⟩ := h
  have up : ∀ {u : Value} {xs : List Int}, OwnI w B u xs → (∀ j, u.ownBlock = some j → T ≤ j) → OwnI w T u xs := by
    intro u xs hu hk
    obtain ⟨g0, g⟩ := hu
    refine ⟨g0, ?_⟩
    rcases g with g | ⟨b, cap, cur, rfl, g1, g2⟩
    · exact .inl g
    · exact .inr ⟨b, cap, cur, rfl, hk b rfl, g2⟩
  exact ⟨vr, vo, rfl, up h1 fun j hk => hj j ((hasBlock_iff _ _ _ _ _).2 (.inl hk)), up h2 fun j hk => hj j ((hasBlock_iff _ _ _ _ _).2 (.inr hk)), h3⟩

/-- What storeOf answers: the states behind all numbers of first events, or that there is no Replay. -/
def StoR (w : World) (g : Nat → I5) (n : Nat) (eh : Nat → E3) (m : Nat) (e : Ending) (w' : World) : Prop :=
  Below w.heap.size w w' ∧ (((repO g n eh m).isSome = false ∧ e = .returned (.tuple #[.map none, .bool false])) ∨ ((repO g n eh m).isSome = true ∧ ∃ b T V D, e = .returned (.tuple #[.map (some b), .bool true]) ∧ Sto w' b T m g n eh V D))

set_option maxRecDepth 100000 in
set_option maxHeartbeats 4000000 in
theorem storeOf_no (gb n gc : Nat) (ea : Option Addr) (m ec : Nat) (g : Nat → I5) (eh : Nat → E3) (w : World) (hn : n ≤ maxLen) (hg : gb < w.heap.size) (hI : InsAt w gb 0 n g) (hp : progOkB g n 4 = false) :
    Calls Tryz.prog 18 #[.slice (some ⟨gb, 0, none⟩) n gc, .slice ea m ec] w (StoR w g n eh m) := by
  have HO : Hid ((repO g n eh m).isSome = false) := by
    show (repO g n eh m).isSome = false
    unfold repO
    rw [if_neg (by rw [hp]; simp)]
    rfl
  go_enter Tryz.func18, Tryz.ntmps18
  go_wp2_with fail
  refine (runOf_no gb n gc g w hn hg hI hp).mono ?_
  rintro e w1 ⟨rfl, b1⟩
  have B1 : Hid (Below w.heap.size w w1) := b1
  clear b1 hI hp
  go_wp2
  exact bodyPost_ret (v := .tuple #[.map none, .bool false]) (by simp [results, Tryz.results18, go_sem]) rfl ⟨B1.out, .inl ⟨HO.out, rfl⟩⟩

/-- Between the rounds of storeOf. -/
structure Sr (w wr : World) (A B C b T gb n gc k : Nat) (g : Nat → I5) (eh : Nat → E3) (S : S4) : Prop where
  rn : ∃ ra rc oa oc, Rn w wr A B C gb n gc k S.p S.c ra rc oa oc S.rs S.os ∧ ¬ hasBlock (stV S.p ra S.rs.length rc oa S.os.length oc S.c) b
  so : ∃ V D, Sto wr b T k g n eh V D
  ne : b ≠ A ∧ b ≠ B ∧ b ≠ C ∧ w.heap.size ≤ b
  lt : A < T ∧ B < T ∧ C < T
  tw : T ≤ wr.heap.size
theorem Sr.below {w wr w' : World} {A B C b T gb n gc k : Nat} {g : Nat → I5} {eh : Nat → E3} {S : S4} (h : Sr w wr A B C b T gb n gc k g eh S) (hb : Below wr.heap.size wr w') : Sr w w' A B C b T gb n gc k g eh S := by
  obtain ⟨ra, rc, oa, oc, r, hh⟩ := h.rn
  obtain ⟨V, D, s⟩ := h.so
  exact ⟨⟨ra, rc, oa, oc, r.below hb, hh⟩, ⟨V, D, s.below hb⟩, h.ne, h.lt, Nat.le_trans h.tw hb.size⟩

set_option maxRecDepth 100000 in
set_option maxHeartbeats 4000000 in
theorem storeOf_yes (gb n gc : Nat) (ea : Option Addr) (m ec : Nat) (g : Nat → I5) (eh : Nat → E3) (w : World) (hn : n ≤ maxLen) (hg : gb < w.heap.size) (hI : InsAt w gb 0 n g) (hp : progOkB g n 4 = true) (hE : EvL w ea m eh) (hm : m ≤ 1048576) :
    Calls Tryz.prog 18 #[.slice (some ⟨gb, 0, none⟩) n gc, .slice ea m ec] w (StoR w g n eh m) := by
  have HI : Hid (InsAt w gb 0 n g) := hI
  have HE : Hid (EvL w ea m eh) := hE
  have HP : Hid (progOkB g n 4 = true) := hp
  have HL : Hid (n ≤ maxLen) := hn
  have hm' : (m : Int) ≤ 1048576 := by omega
  have HO : Hid (repO g n eh m = if m ≤ 200 then rp g n eh m else none) := by
    show repO g n eh m = _
    unfold repO
    by_cases h2 : m ≤ 200
    · rw [if_pos ⟨hp, h2⟩, if_pos h2]
    · rw [if_neg (by omega), if_neg h2]
  clear hI hn hp hE
  have hmm := @run_makeMap Tryz.prog
  go_enter Tryz.func18, Tryz.ntmps18
  go_wp2_with fail
  refine (runOf_any gb n gc g w HL.out hg HI.out HP.out).mono ?_
  rintro e w1 ⟨A, B, C, ra, rc, oa, oc, rfl, R1⟩
  have HR1 : Hid (Rn w w1 A B C gb n gc 0 0 0 ra rc oa oc [0, 0, 0, 0] []) := R1
  clear R1
  go_wp2_with fail
  have HM2 : Hid ((w1.alloc (.map #[] 0)).ownsMap Tryz.prog 3 RV w1.heap.size 0 (.map [])) := World.ownsMap_made _ _ _ _
  have hz2 : (w1.alloc (.map #[] 0)).heap.size = w1.heap.size + 1 := by simp
  have HR2 : Hid (Rn w (w1.alloc (.map #[] 0)) A B C gb n gc 0 0 0 ra rc oa oc [0, 0, 0, 0] []) := HR1.out.below (below_alloc _ _)
  generalize w1.alloc (.map #[] 0) = w2 at *
  refine (implStateNew_any w2).mono ?_
  rintro e w3 ⟨v3, rfl, o3, b3⟩
  obtain ⟨ra3, rc3, oa3, oc3, rfl, -, -⟩ := o3.read
  have HR3 : Hid (Rn w w3 A B C gb n gc 0 0 0 ra rc oa oc [0, 0, 0, 0] []) := HR2.out.below b3
  have HM3 : w3.ownsMap Tryz.prog 3 RV w1.heap.size 0 (.map []) := ownsMap_blk HM2.out (b3.block _ (by omega))
  have HO3 : Hid (StOwn w3 w2.heap.size (stV 0 ra3 4 rc3 oa3 0 oc3 0) 0 [0, 0, 0, 0] [] 0) := o3
  have z3 := b3.size
  clear o3 b3 HM2 HR2
  obtain ⟨w4, hup, hown4, hg4⟩ := HM3.update kInt Tryz.underlying43 (by decide) (keyOf_int_mk Tryz.underlying3 (a := 0) (by decide)) (val := stV 0 ra3 4 rc3 oa3 0 oc3 0) rfl
  have HSR : Hid (Sr w w4 A B C w1.heap.size w2.heap.size gb n gc 0 g eh newS) := by
    have zA : A < w1.heap.size := World.block_lt_of_cell? w1 _ HR1.out.la
    have zB : B < w1.heap.size := HR1.out.tl.hi
    have zC : C < w1.heap.size := World.block_lt_of_cell? w1 _ HR1.out.ck
    have zw : w.heap.size ≤ w1.heap.size := HR1.out.be.size
    have hnb : ¬ hasBlock (stV 0 ra 4 rc oa 0 oc 0) w1.heap.size := fun e => by
      have := HR1.out.tl.up _ e
      omega
    exact ⟨⟨ra, rc, oa, oc, HR3.out.keepX ⟨by omega, by omega, by omega, zw⟩ hnb hg4, hnb⟩, ⟨_, _, Sto.new hown4 hg4 HO3.out (by omega)⟩, ⟨by omega, by omega, by omega, zw⟩, ⟨by omega, by omega, by omega⟩, Nat.le_trans z3 hg4.size⟩
  clear hown4 hg4 HM3 HR3 HO3 HR1 hmm
  generalize w1.heap.size = b at *
  generalize w2.heap.size = T at *
  clear hz2 z3
  go_wp2_with fail
  clear hup
  go_loopw [25] (fun i wr => ∃ k : Nat, k ≤ m ∧ i = .int .i64 k ∧ Hid (k ≤ 200 ∧ ∃ S, rp g n eh k = some S ∧ OkS n S ∧ Sr w wr A B C b T gb n gc k g eh S)) (fun i _ => m - (intOf i).toNat)
  case atStart => exact ⟨0, Nat.zero_le _, rfl, by omega, newS, rfl, newS_ok HP.out, HSR.out⟩
  case round =>
    clear HSR
    obtain ⟨k, hk, rfl, HK⟩ := hrel
    obtain ⟨hk2, S, hrp, hok, hsr⟩ := HK.out
    have hbe : Below w.heap.size w wr := by
      obtain ⟨_, _, _, _, r, _⟩ := hsr.rn
      exact r.be
    by_cases hlt : k < m
    · have hlt' : (k : Int) < (m : Int) := by omega
      obtain ⟨eb, eo, rfl, -, c0, c1, c2⟩ := (HE.out.below hbe).at hlt
      have HRP : Hid (rp g n eh k = some S) := hrp
      have HOK : Hid (OkS n S) := hok
      have HK2 : Hid (k ≤ 200) := hk2
      have hRq : Sr w (wr.alloc (.cells #[.int .i64 (eh k).k, .int .i64 (eh k).q, .int .i64 (eh k).v] 62)) A B C b T gb n gc k g eh S := hsr.below (below_alloc _ _)
      have HRq : Hid (Sr w (wr.alloc (.cells #[.int .i64 (eh k).k, .int .i64 (eh k).q, .int .i64 (eh k).v] 62)) A B C b T gb n gc k g eh S) := hRq
      clear hrp hok hsr hk2 hbe HK hRq
      go_wp2_with fail
      generalize wr.alloc (.cells #[.int .i64 (eh k).k, .int .i64 (eh k).q, .int .i64 (eh k).v] 62) = wq at *
      obtain ⟨qra, qrc, qoa, qoc, qrn, -⟩ := HRq.out.rn
      have hlen := OkS.len HOK.out
      clear c0 c1 c2
      refine (runOf1_any A B C gb n gc k g S.p S.c qra qrc qoa qoc S.rs S.os _ _ _ w wq qrn HL.out hg HI.out HP.out HK2.out (by omega) (by omega)).mono ?_
      rintro e w5 ⟨kp, hd⟩
      rcases hd with ⟨tT, tk, ra7, rc7, oa7, oc7, rfl, R7, J7⟩ | ⟨tF, rfl, be7⟩
      · have HS' : Hid (rp g n eh (k + 1) = some (doS g n S.p S.rs S.os S.c (eh k).k (eh k).q (eh k).v)) := rp_yes HRP.out tT
        have HO' : Hid (OkS n (doS g n S.p S.rs S.os S.c (eh k).k (eh k).q (eh k).v)) := doS_ok tT
        have HK3 : Hid (k + 1 ≤ 200) := by
          show k + 1 ≤ 200
          have := HK2.out
          omega
        generalize doS g n S.p S.rs S.os S.c (eh k).k (eh k).q (eh k).v = S' at *
        obtain ⟨V, D, so⟩ := HRq.out.so
        obtain ⟨nA, nB, nC, nw⟩ := HRq.out.ne
        obtain ⟨lA, lB, lC⟩ := HRq.out.lt
        have tw := HRq.out.tw
        have hbw : b < wq.heap.size := so.own.lt
        have so5 : Sto w5 b T k g n eh V D := so.keep fun i hi hl => kp.2 i hl (by rcases hi with e | e <;> omega) (by rcases hi with e | e <;> omega)
        have bq := below_alloc w5 (.cells #[.int .i64 S'.p, .slice ra7 S'.rs.length rc7, .slice oa7 S'.os.length oc7, .int .i64 S'.c] 32)
        have so6 := so5.below bq
        have nb : ¬ hasBlock (stV S'.p ra7 S'.rs.length rc7 oa7 S'.os.length oc7 S'.c) b := fun e => by
          have := J7 b e
          omega
        obtain ⟨w7, hup, hown7, hg7⟩ := so6.own.update kInt Tryz.underlying43 (by unfold maxLen; omega) (keyOf_int_mk Tryz.underlying3 (a := (k : Int) + 1) (wf64 (by omega) (by omega))) (val := stV S'.p ra7 S'.rs.length rc7 oa7 S'.os.length oc7 S'.c) rfl
        have HN : Hid (Sr w w7 A B C b T gb n gc (k + 1) g eh S') := ⟨⟨ra7, rc7, oa7, oc7, (R7.below bq).keepX ⟨nA, nB, nC, nw⟩ nb hg7, nb⟩, ⟨_, _, so6.put hown7 hg7 HS'.out ((R7.tl.own.up fun j hj => Nat.le_trans tw (J7 j hj)).below bq)⟩, ⟨nA, nB, nC, nw⟩, ⟨lA, lB, lC⟩, Nat.le_trans tw (Nat.le_trans kp.1 (Nat.le_trans bq.size hg7.size))⟩
        clear R7 J7 qrn kp tT tk so so5 so6 hown7 hg7 nb bq nA nB nC nw lA lB lC tw hbw hlen
        go_wp2
        go_roundw
        case rel => exact ⟨k + 1, by omega, by go_num, HK3.out, S', HS'.out, HO'.out, HN.out⟩
        case measure => simp [intOf]; omega
      · have HON : Hid ((repO g n eh m).isSome = false) := by
          show (repO g n eh m).isSome = false
          have : repO g n eh m = none := by
            rw [HO.out]
            rcases tF with tF | tF
            · by_cases h2 : m ≤ 200
              · rw [if_pos h2]
                exact rp_over (rp_no HRP.out tF) (by omega)
              · rw [if_neg h2]
            · rw [if_neg (by omega)]
          rw [this]
          rfl
        have B5 : Hid (Below w.heap.size w w5) := be7
        clear qrn kp tF be7 hlen
        go_wp2
        refine bodyPost_ret (v := .tuple #[.map none, .bool false]) (by simp [results, Tryz.results18, go_sem]) rfl ⟨B5.out.trans ((below_alloc _ _).mono B5.out.size), .inl ⟨HON.out, rfl⟩⟩
    · have hkm : k = m := by omega
      subst hkm
      have HOS : Hid ((repO g n eh k).isSome = true) := by
        show (repO g n eh k).isSome = true
        rw [HO.out, if_pos hk2, hrp]
        rfl
      obtain ⟨V, D, so⟩ := hsr.so
      have HSO : Hid (Sto wr b T k g n eh V D) := so
      have HBE : Hid (Below w.heap.size w wr) := hbe
      clear so hsr hbe hrp hok hk2 HK
      go_wp2
      exact bodyPost_ret (v := .tuple #[.map (some b), .bool true]) (by simp [results, Tryz.results18, go_sem]) rfl ⟨HBE.out, .inr ⟨HOS.out, b, T, V, D, rfl, HSO.out⟩⟩

end Go.Proofs.YtcmmlklanjhfoaaGreatDoor

namespace Go.Proofs.YtcmmlklanjhfoaaGreatDoor
open Go.ChangeShapes Go.WideShapes Go.ChangeAt Go.RowKit Go.Deep Go.Sort Go.Maps

theorem storeOf_any (gb n gc : Nat) (ea : Option Addr) (m ec : Nat) (g : Nat → I5) (eh : Nat → E3) (w : World) (hn : n ≤ maxLen) (hg : gb < w.heap.size) (hI : InsAt w gb 0 n g) (hE : EvL w ea m eh) (hm : m ≤ 1048576) :
    Calls Tryz.prog 18 #[.slice (some ⟨gb, 0, none⟩) n gc, .slice ea m ec] w (StoR w g n eh m) := by
  rcases Bool.eq_false_or_eq_true (progOkB g n 4) with t | t
  · exact storeOf_yes gb n gc ea m ec g eh w hn hg hI t hE hm
  · exact storeOf_no gb n gc ea m ec g eh w hn hg hI t
set_option maxRecDepth 100000 in
set_option maxHeartbeats 2000000 in
theorem implKeptOk_any (gb n gc : Nat) (ea : Option Addr) (m ec : Nat) (ka : Option Addr) (c kc : Nat) (g : Nat → I5) (eh : Nat → E3) (q : Nat → K9) (w : World) (hn : n ≤ maxLen) (hg : gb < w.heap.size) (hI : InsAt w gb 0 n g) (hE : EvL w ea m eh) (hm : m ≤ 1048576) (hc : c ≤ 1048576) (hA : AllKept w ka c q) (hl : ∀ i, i < c → (q i).rs.length ≤ 1048576 ∧ (q i).os.length ≤ 1048576) (hw : ∀ i, i < c → (Lit.int .i64 (q i).n).wf = true) :
    Calls Tryz.prog 10 #[.slice (some ⟨gb, 0, none⟩) n gc, .slice ea m ec, .slice ka c kc] w fun e w' => e = .returned (.bool (pB (KpOk g n eh m q c))) ∧ Below w.heap.size w w' := by
  have hc' : (c : Int) ≤ 1048576 := by omega
  have HA : Hid (AllKept w ka c q) := hA
  have HL : Hid (∀ i, i < c → (q i).rs.length ≤ 1048576 ∧ (q i).os.length ≤ 1048576) := hl
  have HW : Hid (∀ i, i < c → (Lit.int .i64 (q i).n).wf = true) := hw
  have HC := storeOf_any gb n gc ea m ec g eh w hn hg hI hE hm
  clear hA hl hw hI hE hn hg
  go_enter Tryz.func10, Tryz.ntmps10
  go_wp2_with fail
  refine HC.mono ?_
  clear HC
  rintro e w1 ⟨b1, ⟨hs, rfl⟩ | ⟨hs, b, T, V, D, rfl, st⟩⟩
  · have HV : Hid (pB (KpOk g n eh m q c) = false) := pB_false fun h => by
      rw [h.so] at hs
      cases hs
    have B1 : Hid (Below w.heap.size w w1) := b1
    clear b1 hs
    go_wp2
    go_ret
    rw [HV.out]
    exact ⟨rfl, B1.out⟩
  have B1 : Hid (Below w.heap.size w w1) := b1
  have HS : Hid ((repO g n eh m).isSome = true) := hs
  have ST : Hid (Sto w1 b T m g n eh V D) := st
  clear b1 hs st
  go_wp2_with fail
  refine (isLine_any ka c kc q w1 hc (HA.out.below B1.out)).mono ?_
  rintro e w2 ⟨rfl, b2⟩
  have B2 : Hid (Below w.heap.size w w2 ∧ Sto w2 b T m g n eh V D) := ⟨B1.out.trans (b2.mono B1.out.size), ST.out.below b2⟩
  clear b2 B1 ST
  rcases Bool.eq_false_or_eq_true (pB (Line q c)) with t | t
  case inr =>
    rw [t]
    have HV : Hid (pB (KpOk g n eh m q c) = false) := pB_false fun h => by
      rw [pB_true h.li] at t
      cases t
    clear t
    go_wp2
    go_ret
    rw [HV.out]
    exact ⟨rfl, B2.out.1⟩
  rw [t]
  have HLi : Hid (Line q c) := pB_iff.1 t
  clear t
  go_wp2_with fail
  go_loopw [26] (fun i wr => ∃ k : Nat, k ≤ c ∧ i = .int .i64 k ∧ Hid (Below w.heap.size w wr ∧ Sto wr b T m g n eh V D) ∧ Hid (∀ j, j < k → KpAt g n eh m (q j))) (fun i _ => c - (intOf i).toNat)
  case atStart => exact ⟨0, Nat.zero_le _, rfl, B2.out, fun j hj => by omega⟩
  case round =>
    clear B2
    obtain ⟨k, hk, rfl, HB, HK⟩ := hrel
    by_cases hlt : k < c
    · have hlt' : (k : Int) < (c : Int) := by omega
      have HAr : Hid (AllKept wr ka c q) := HA.out.below HB.out.1
      obtain ⟨bk, ok, rfl, c0, c1, c2, c3, c4⟩ := HAr.out.at hlt
      go_wp2_with fail
      clear c0 c1 c2 c3 c4
      have bz : Below wr.heap.size wr (wr.alloc (.cells #[.int .i64 (q k).n, .int .i64 (q k).p, .slice (q k).ra (q k).rs.length (q k).rc, .slice (q k).oa (q k).os.length (q k).oc, .int .i64 (q k).c] 48)) := below_alloc _ _
      refine (has_any b T m n g eh V D (q k) _ (HB.out.2.below bz) (repO_prog HS.out).1 (HW.out k hlt) (HL.out k hlt).1 (HL.out k hlt).2 ((HAr.out.lst k hlt).1.below bz) ((HAr.out.lst k hlt).2.below bz)).mono ?_
      rintro e w3 ⟨rfl, b3⟩
      have B3 : Hid (Below w.heap.size w w3 ∧ Sto w3 b T m g n eh V D) := ⟨HB.out.1.trans ((bz.trans (b3.mono bz.size)).mono HB.out.1.size), HB.out.2.below (bz.trans (b3.mono bz.size))⟩
      clear b3 bz HB HAr
      rcases Bool.eq_false_or_eq_true (pB (KpAt g n eh m (q k))) with t | t
      · rw [t]
        have HK' : Hid (∀ j, j < k + 1 → KpAt g n eh m (q j)) := fun j hj => by
          by_cases e : j = k
          · subst e
            exact pB_iff.1 t
          · exact HK.out j (by omega)
        clear t HK
        go_wp2
        go_roundw
        case rel => exact ⟨k + 1, by omega, by go_num, B3.out, HK'.out⟩
        case measure => simp [intOf]; omega
      · rw [t]
        have HV : Hid (pB (KpOk g n eh m q c) = false) := pB_false fun h => by
          rw [pB_true (h.al k hlt)] at t
          cases t
        clear t HK
        go_wp2
        go_ret
        rw [HV.out]
        exact ⟨rfl, B3.out.1⟩
    · have HV : Hid (pB (KpOk g n eh m q c) = true) := pB_true ⟨HS.out, HLi.out, fun i hi => HK.out i (by omega)⟩
      have B3 := HB.out.1
      clear HK HB
      go_wp2
      go_ret
      rw [HV.out]
      exact ⟨rfl, B3⟩

end Go.Proofs.YtcmmlklanjhfoaaGreatDoor
