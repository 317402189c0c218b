/- storeOf once more: the states lie apart from each other. -/
import Derived.Test.YtkoghgnbolaooaaGreatRa46
namespace Go.Proofs.YtkoghgnbolaooaaGreat
open Go.RowKit Go.Sort Go.Maps

/-- As Sto, and no two states share memory. -/
structure StA (w : World) (b T k : Nat) (g : Nat → I5) (n : Nat) (eh : Nat → E3) (V : Nat → Value) (D : DataW Value) : Prop extends Sto w b T k g n eh V D where
  ap : ∀ i j, i < j → j ≤ k → ∀ x, hasBlock (V i) x → ¬ hasBlock (V j) x
theorem StA.keepA {w w' : World} {b T k n : Nat} {g : Nat → I5} {eh : Nat → E3} {V : Nat → Value} {D : DataW Value} (h : StA w b T k g n eh V D) (hb : ∀ i, i = b ∨ T ≤ i → i < w.heap.size → w'.heap[i]? = w.heap[i]?) : StA w' b T k g n eh V D := ⟨h.toSto.keep hb, h.ap⟩
theorem StA.belowA {w w' : World} {b T k n : Nat} {g : Nat → I5} {eh : Nat → E3} {V : Nat → Value} {D : DataW Value} (h : StA w b T k g n eh V D) (hb : Below w.heap.size w w') : StA w' b T k g n eh V D := ⟨h.toSto.below hb, h.ap⟩
theorem StA.new {w w' : World} {b T n : Nat} {g : Nat → I5} {eh : Nat → E3} {v : Value} (ho : w'.ownsMap Tryz.prog 3 RV b (0 + 1) ((DataW.map []).put (.int .i64 0) (.held v))) (hg : w.grownBy w' (some b)) (hv : StOwn w T v newS.p newS.rs newS.os newS.c) (hT : b < T) : StA w' b T 0 g n eh (fun _ => v) ((DataW.map []).put (.int .i64 0) (.held v)) := ⟨Sto.new ho hg hv hT, fun i j hij hj => by omega⟩
theorem StA.putA {w w' : World} {b T k n : Nat} {g : Nat → I5} {eh : Nat → E3} {V : Nat → Value} {D : DataW Value} (h : StA w b T k g n eh V D) {v : Value} {S : S4} (ho : w'.ownsMap Tryz.prog 3 RV b (k + 1 + 1) (D.put (.int .i64 ((k : Int) + 1)) (.held v))) (hg : w.grownBy w' (some b)) (hS : rp g n eh (k + 1) = some S) (hv : StOwn w T v S.p S.rs S.os S.c) (hn : ∀ i, i ≤ k → ∀ j, hasBlock (V i) j → ¬ hasBlock v j) : StA w' b T (k + 1) g n eh (fun j => if j = k + 1 then v else V j) (D.put (.int .i64 ((k : Int) + 1)) (.held v)) := by
  refine ⟨h.toSto.put ho hg hS hv, fun i j hij hj x h1 => ?_⟩
  have hi : i ≠ k + 1 := by omega
  simp only [if_neg hi] at h1
  by_cases e : j = k + 1
  · simp only [if_pos e]
    exact hn i (by omega) x h1
  · simp only [if_neg e]
    exact h.ap i j hij (by omega) x h1
def StoRA (w : World) (g : Nat → I5) (n : Nat) (eh : Nat → E3) (m : Nat) (e : Ending) (w' : World) : Prop :=
  Below w.heap.size w w' ∧ (((repO g n eh m).isSome = false ∧ e = .returned (.tuple #[.map none, .bool false])) ∨ ((repO g n eh m).isSome = true ∧ ∃ b T V D, e = .returned (.tuple #[.map (some b), .bool true]) ∧ w.heap.size ≤ b ∧ T ≤ w'.heap.size ∧ StA w' b T m g n eh V D))

/-- Between the rounds of storeOf. -/
structure SrA (w wr : World) (A B C b T gb n gc k : Nat) (g : Nat → I5) (eh : Nat → E3) (S : S4) : Prop where
  rn : ∃ ra rc oa oc, Rn w wr A B C gb n gc k S.p S.c ra rc oa oc S.rs S.os ∧ ¬ hasBlock (stV S.p ra S.rs.length rc oa S.os.length oc S.c) b
  so : ∃ V D, StA wr b T k g n eh V D
  ne : b ≠ A ∧ b ≠ B ∧ b ≠ C ∧ w.heap.size ≤ b
  lt : A < T ∧ B < T ∧ C < T
  tw : T ≤ wr.heap.size
theorem SrA.below {w wr w' : World} {A B C b T gb n gc k : Nat} {g : Nat → I5} {eh : Nat → E3} {S : S4} (h : SrA w wr A B C b T gb n gc k g eh S) (hb : Below wr.heap.size wr w') : SrA w w' A B C b T gb n gc k g eh S := by
  obtain ⟨ra, rc, oa, oc, r, hh⟩ := h.rn
  obtain ⟨V, D, s⟩ := h.so
  exact ⟨⟨ra, rc, oa, oc, r.below hb, hh⟩, ⟨V, D, s.belowA hb⟩, h.ne, h.lt, Nat.le_trans h.tw hb.size⟩

set_option maxRecDepth 100000 in
set_option maxHeartbeats 4000000 in
theorem storeOf_yesA (gb n gc : Nat) (ea : Option Addr) (m ec : Nat) (g : Nat → I5) (eh : Nat → E3) (w : World) (hn : n ≤ maxLen) (hg : gb < w.heap.size) (hI : InsAt w gb 0 n g) (hp : progOkB g n 4 = true) (hE : EvL w ea m eh) (hm : m ≤ 1048576) :
    Calls Tryz.prog 28 #[.slice (some ⟨gb, 0, none⟩) n gc, .slice ea m ec] w (StoRA w g n eh m) := by
  have HI : Hid (InsAt w gb 0 n g) := hI
  have HE : Hid (EvL w ea m eh) := hE
  have HP : Hid (progOkB g n 4 = true) := hp
  have HL : Hid (n ≤ maxLen) := hn
  have hm' : (m : Int) ≤ 1048576 := by omega
  have HO : Hid (repO g n eh m = if m ≤ 200 then rp g n eh m else none) := by
    show repO g n eh m = _
    unfold repO
    by_cases h2 : m ≤ 200
    · rw [if_pos ⟨hp, h2⟩, if_pos h2]
    · rw [if_neg (by omega), if_neg h2]
  clear hI hn hp hE
  have hmm := @run_makeMap Tryz.prog
  go_enter Tryz.func28, Tryz.ntmps28
  go_wp2_with fail
  refine (runOf_any gb n gc g w HL.out hg HI.out HP.out).mono ?_
  rintro e w1 ⟨A, B, C, ra, rc, oa, oc, rfl, R1⟩
  have HR1 : Hid (Rn w w1 A B C gb n gc 0 0 0 ra rc oa oc [0, 0, 0, 0] []) := R1
  clear R1
  go_wp2_with fail
  have HM2 : Hid ((w1.alloc (.map #[] 0)).ownsMap Tryz.prog 3 RV w1.heap.size 0 (.map [])) := World.ownsMap_made _ _ _ _
  have hz2 : (w1.alloc (.map #[] 0)).heap.size = w1.heap.size + 1 := by simp
  have HR2 : Hid (Rn w (w1.alloc (.map #[] 0)) A B C gb n gc 0 0 0 ra rc oa oc [0, 0, 0, 0] []) := HR1.out.below (below_alloc _ _)
  generalize w1.alloc (.map #[] 0) = w2 at *
  refine (implStateNew_any w2).mono ?_
  rintro e w3 ⟨v3, rfl, o3, b3⟩
  obtain ⟨ra3, rc3, oa3, oc3, rfl, -, -⟩ := o3.read
  have HR3 : Hid (Rn w w3 A B C gb n gc 0 0 0 ra rc oa oc [0, 0, 0, 0] []) := HR2.out.below b3
  have HM3 : w3.ownsMap Tryz.prog 3 RV w1.heap.size 0 (.map []) := ownsMap_blk HM2.out (b3.block _ (by omega))
  have HO3 : Hid (StOwn w3 w2.heap.size (stV 0 ra3 4 rc3 oa3 0 oc3 0) 0 [0, 0, 0, 0] [] 0) := o3
  have z3 := b3.size
  clear o3 b3 HM2 HR2
  obtain ⟨w4, hup, hown4, hg4⟩ := HM3.update kInt Tryz.underlying63 (by decide) (keyOf_int_mk Tryz.underlying3 (a := 0) (by decide)) (val := stV 0 ra3 4 rc3 oa3 0 oc3 0) rfl
  have HSR : Hid (SrA w w4 A B C w1.heap.size w2.heap.size gb n gc 0 g eh newS) := by
    have zA : A < w1.heap.size := World.block_lt_of_cell? w1 _ HR1.out.la
    have zB : B < w1.heap.size := HR1.out.tl.hi
    have zC : C < w1.heap.size := World.block_lt_of_cell? w1 _ HR1.out.ck
    have zw : w.heap.size ≤ w1.heap.size := HR1.out.be.size
    have hnb : ¬ hasBlock (stV 0 ra 4 rc oa 0 oc 0) w1.heap.size := fun e => by
      have := HR1.out.tl.up _ e
      omega
    exact ⟨⟨ra, rc, oa, oc, HR3.out.keepX ⟨by omega, by omega, by omega, zw⟩ hnb hg4, hnb⟩, ⟨_, _, StA.new hown4 hg4 HO3.out (by omega)⟩, ⟨by omega, by omega, by omega, zw⟩, ⟨by omega, by omega, by omega⟩, Nat.le_trans z3 hg4.size⟩
  clear hown4 hg4 HM3 HR3 HO3 HR1 hmm
  generalize w1.heap.size = b at *
  generalize w2.heap.size = T at *
  clear hz2 z3
  go_wp2_with fail
  clear hup
  go_loopw [25] (fun i wr => ∃ k : Nat, k ≤ m ∧ i = .int .i64 k ∧ Hid (k ≤ 200 ∧ ∃ S, rp g n eh k = some S ∧ OkS n S ∧ SrA w wr A B C b T gb n gc k g eh S)) (fun i _ => m - (intOf i).toNat)
  case atStart => exact ⟨0, Nat.zero_le _, rfl, by omega, newS, rfl, newS_ok HP.out, HSR.out⟩
  case round =>
    clear HSR
    obtain ⟨k, hk, rfl, HK⟩ := hrel
    obtain ⟨hk2, S, hrp, hok, hsr⟩ := HK.out
    have hbe : Below w.heap.size w wr := by
      obtain ⟨_, _, _, _, r, _⟩ := hsr.rn
      exact r.be
    by_cases hlt : k < m
    · have hlt' : (k : Int) < (m : Int) := by omega
      obtain ⟨eb, eo, rfl, -, c0, c1, c2⟩ := (HE.out.below hbe).at hlt
      have HRP : Hid (rp g n eh k = some S) := hrp
      have HOK : Hid (OkS n S) := hok
      have HK2 : Hid (k ≤ 200) := hk2
      have hRq : SrA w (wr.alloc (.cells #[.int .i64 (eh k).k, .int .i64 (eh k).q, .int .i64 (eh k).v] 59)) A B C b T gb n gc k g eh S := hsr.below (below_alloc _ _)
      have HRq : Hid (SrA w (wr.alloc (.cells #[.int .i64 (eh k).k, .int .i64 (eh k).q, .int .i64 (eh k).v] 59)) A B C b T gb n gc k g eh S) := hRq
      clear hrp hok hsr hk2 hbe HK hRq
      go_wp2_with fail
      generalize wr.alloc (.cells #[.int .i64 (eh k).k, .int .i64 (eh k).q, .int .i64 (eh k).v] 59) = wq at *
      obtain ⟨qra, qrc, qoa, qoc, qrn, -⟩ := HRq.out.rn
      have hlen := OkS.len HOK.out
      clear c0 c1 c2
      refine (runOf1_any A B C gb n gc k g S.p S.c qra qrc qoa qoc S.rs S.os _ _ _ w wq qrn HL.out hg HI.out HP.out HK2.out (by omega) (by omega)).mono ?_
      rintro e w5 ⟨kp, hd⟩
      rcases hd with ⟨tT, tk, ra7, rc7, oa7, oc7, rfl, R7, J7⟩ | ⟨tF, rfl, be7⟩
      · have HS' : Hid (rp g n eh (k + 1) = some (doS g n S.p S.rs S.os S.c (eh k).k (eh k).q (eh k).v)) := rp_yes HRP.out tT
        have HO' : Hid (OkS n (doS g n S.p S.rs S.os S.c (eh k).k (eh k).q (eh k).v)) := doS_ok tT
        have HK3 : Hid (k + 1 ≤ 200) := by
          show k + 1 ≤ 200
          have := HK2.out
          omega
        generalize doS g n S.p S.rs S.os S.c (eh k).k (eh k).q (eh k).v = S' at *
        obtain ⟨V, D, so⟩ := HRq.out.so
        obtain ⟨nA, nB, nC, nw⟩ := HRq.out.ne
        obtain ⟨lA, lB, lC⟩ := HRq.out.lt
        have tw := HRq.out.tw
        have hbw : b < wq.heap.size := so.own.lt
        have so5 : StA w5 b T k g n eh V D := so.keepA fun i hi hl => kp.2 i hl (by rcases hi with e | e <;> omega) (by rcases hi with e | e <;> omega)
        have bq := below_alloc w5 (.cells #[.int .i64 S'.p, .slice ra7 S'.rs.length rc7, .slice oa7 S'.os.length oc7, .int .i64 S'.c] 43)
        have so6 := so5.belowA bq
        have nb : ¬ hasBlock (stV S'.p ra7 S'.rs.length rc7 oa7 S'.os.length oc7 S'.c) b := fun e => by
          have := J7 b e
          omega
        obtain ⟨w7, hup, hown7, hg7⟩ := so6.own.update kInt Tryz.underlying63 (by unfold maxLen; omega) (keyOf_int_mk Tryz.underlying3 (a := (k : Int) + 1) (wf64 (by omega) (by omega))) (val := stV S'.p ra7 S'.rs.length rc7 oa7 S'.os.length oc7 S'.c) rfl
        have HN : Hid (SrA w w7 A B C b T gb n gc (k + 1) g eh S') := ⟨⟨ra7, rc7, oa7, oc7, (R7.below bq).keepX ⟨nA, nB, nC, nw⟩ nb hg7, nb⟩, ⟨_, _, so6.putA hown7 hg7 HS'.out ((R7.tl.own.up fun j hj => Nat.le_trans tw (J7 j hj)).below bq) (fun i hi j h1 h2 => by
            obtain ⟨S1, -, o1⟩ := so.st i hi
            have h3 := (o1.lt h1).2
            have h4 := J7 j h2
            omega)⟩, ⟨nA, nB, nC, nw⟩, ⟨lA, lB, lC⟩, Nat.le_trans tw (Nat.le_trans kp.1 (Nat.le_trans bq.size hg7.size))⟩
        clear R7 J7 qrn kp tT tk so so5 so6 hown7 hg7 nb bq nA nB nC nw lA lB lC tw hbw hlen
        go_wp2
        go_roundw
        case rel => exact ⟨k + 1, by omega, by go_num, HK3.out, S', HS'.out, HO'.out, HN.out⟩
        case measure => simp [intOf]; omega
      · have HON : Hid ((repO g n eh m).isSome = false) := by
          show (repO g n eh m).isSome = false
          have : repO g n eh m = none := by
            rw [HO.out]
            rcases tF with tF | tF
            · by_cases h2 : m ≤ 200
              · rw [if_pos h2]
                exact rp_over (rp_no HRP.out tF) (by omega)
              · rw [if_neg h2]
            · rw [if_neg (by omega)]
          rw [this]
          rfl
        have B5 : Hid (Below w.heap.size w w5) := be7
        clear qrn kp tF be7 hlen
        go_wp2
        refine bodyPost_ret (v := .tuple #[.map none, .bool false]) (by simp [results, Tryz.results28, go_sem]) rfl ⟨B5.out.trans ((below_alloc _ _).mono B5.out.size), .inl ⟨HON.out, rfl⟩⟩
    · have hkm : k = m := by omega
      subst hkm
      have HOS : Hid ((repO g n eh k).isSome = true) := by
        show (repO g n eh k).isSome = true
        rw [HO.out, if_pos hk2, hrp]
        rfl
      obtain ⟨V, D, so⟩ := hsr.so
      have HSO : Hid (StA wr b T k g n eh V D) := so
      have HBE : Hid (Below w.heap.size w wr) := hbe
      have HBW : Hid (w.heap.size ≤ b) := hsr.ne.2.2.2
      have HTW : Hid (T ≤ wr.heap.size) := hsr.tw
      clear so hsr hbe hrp hok hk2 HK
      go_wp2
      exact bodyPost_ret (v := .tuple #[.map (some b), .bool true]) (by simp [results, Tryz.results28, go_sem]) rfl ⟨HBE.out, .inr ⟨HOS.out, b, T, V, D, rfl, HBW.out, HTW.out, HSO.out⟩⟩

end Go.Proofs.YtkoghgnbolaooaaGreat
