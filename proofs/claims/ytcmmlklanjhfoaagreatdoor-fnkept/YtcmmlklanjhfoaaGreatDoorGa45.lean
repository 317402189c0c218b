/- The walk of the program's told, over what the library's sort does. -/
import Derived.Test.YtcmmlklanjhfoaaGreatDoorGa42
import Derived.Maps.RangeWalk
import Derived.Test.YtcmmlklanjhfoaaGreatDoorGa40
import Derived.OwnWalk
namespace Go.Proofs.YtcmmlklanjhfoaaGreatDoor
open Go.RowKit Go.Sort Go.Maps

/-- As Sto, but only the numbers j with p j are there. -/
structure StoP (w : World) (b T m : Nat) (g : Nat → I5) (n : Nat) (eh : Nat → E3) (V : Nat → Value) (D : DataW Value) (p : Int → Bool) : Prop where
  own : w.ownsMap Tryz.prog 3 RV b (m + 1) D
  key : ∀ j : Int, Maps.has D (.int .i64 j) = (decide (0 ≤ j ∧ j ≤ m) && p j)
  val : ∀ j : Nat, j ≤ m → p j = true → ∀ z, D.atKey (.int .i64 j) z = .held (V j)
  st : ∀ j, j ≤ m → ∃ S, rp g n eh j = some S ∧ StOwn w T (V j) S.p S.rs S.os S.c
  bT : b < T

theorem sameKey_int (i j : Int) : (Lit.int .i64 i).sameKey (.int .i64 j) = decide (i = j) := by
  by_cases e : i = j
  · subst e
    rw [WideAt.sameKey_self (keyI i)]
    simp
  · rw [Maps.sameKey_ne (fun h => e (by injection h))]
    simp [e]

set_option maxRecDepth 100000 in
set_option maxHeartbeats 2000000 in
theorem thin_any (b T m n : Nat) (g : Nat → I5) (eh : Nat → E3) (V : Nat → Value) (D : DataW Value) (w : World) (hS : Sto w b T m g n eh V D) :
    Calls Tryz.prog 19 #[.map (some b)] w fun e w' => e = .returned (.tuple #[]) ∧ (∃ D', StoP w' b T m g n eh V D' (fun j => decide (j % 8 = 0))) ∧ w.grownBy w' (some b) := by
  obtain ⟨w0, hrn, hrg0, hg0, hs0⟩ := hS.own.range kInt Tryz.underlying43
  have HS : Hid (Sto w b T m g n eh V D) := hS
  have hb : b < w.heap.size := hS.own.lt
  have HR0 : Hid (w0.ranges Tryz.prog 3 RV b w.heap.size (m + 1) D (Maps.has D) (Maps.size D) ∧ w.grownBy w0 (some b)) := ⟨hrg0, hg0.but _⟩
  clear hS hrg0 hg0 hs0
  go_enter Tryz.func19, Tryz.ntmps19
  go_wp2_with fail
  clear hrn
  go_loopw [2] (fun _ wr => ∃ (D' : DataW Value) (left : Lit → Bool) (cnt : Nat), wr.ranges Tryz.prog 3 RV b w.heap.size (m + 1) D' left cnt ∧ Hid (w.grownBy wr (some b)) ∧ Hid ((∀ j : Int, Maps.has D' (.int .i64 j) = (decide (0 ≤ j ∧ j ≤ m) && (decide (j % 8 = 0) || left (.int .i64 j)))) ∧ ∀ j : Nat, Maps.has D' (.int .i64 j) = true → ∀ z, D'.atKey (.int .i64 j) z = .held (V j))) (fun _ wr => wr.rangeLeft b w.heap.size)
  case atStart =>
    refine ⟨D, Maps.has D, Maps.size D, HR0.out.1, HR0.out.2, fun j => ?_, fun j hj => ?_⟩
    · rw [HS.out.key]
      cases decide (0 ≤ j ∧ j ≤ (m : Int)) <;> simp
    · rw [HS.out.key] at hj
      have := of_decide_eq_true hj
      exact HS.out.val j (by omega)
  case round =>
    clear HR0
    obtain ⟨D', left, cnt, hrg, HG, HK⟩ := hrel
    rcases hrg.next kInt 0 with ⟨h0, hl, hrun⟩ | ⟨key, v, kl, y, w1, cnt1, hkey, hlk, hv, hat, hrun, hrg1, hlt, hg1, hs1, hen⟩
    · have HF : Hid ((∃ D', StoP wr b T m g n eh V D' (fun j => decide (j % 8 = 0))) ∧ w.grownBy wr (some b)) := by
        refine ⟨⟨D', hrg.owns, fun j => ?_, fun j hj hp z => ?_, fun j hj => ?_, HS.out.bT⟩, HG.out⟩
        · rw [HK.out.1 j, hl]
          simp
        · refine HK.out.2 j ?_ z
          rw [HK.out.1, hp, decide_eq_true (by omega)]
          rfl
        · obtain ⟨S, e1, o⟩ := HS.out.st j hj
          refine ⟨S, e1, o.blk fun i hi => HG.out.block i (o.lt hi).2 fun e => ?_⟩
          have h1 := (o.lt hi).1
          have h2 := HS.out.bT
          injection e with e
          omega
      clear hrg HG HK
      go_wp2
      go_end0
      exact ⟨rfl, HF.out.1, HF.out.2⟩
    · obtain ⟨x, rfl, rfl, hwf⟩ := Maps.keyOf_int_inv Tryz.underlying3 hkey
      have hr2 : w.heap.size < wr.heap.size := hrg.lt
      have HG1 : Hid (w.grownBy w1 (some b)) := HG.out.andThen hg1 (fun j hj => .inl (by injection hj with hj; omega))
      have HLft : Hid (wr.rangeLeft b w.heap.size = cnt) := hrg.left_eq
      have hhx : Maps.has D' (.int .i64 x) = true := by
        rw [HK.out.1 x, hlk]
        have : Maps.has D' (.int .i64 x) = true := has_true_of_atKey hat
        rw [HK.out.1 x] at this
        cases hd : decide (0 ≤ x ∧ x ≤ (m : Int))
        · rw [hd] at this
          simp at this
        · simp
      have hx0 : 0 ≤ x ∧ x ≤ (m : Int) := by
        rw [HK.out.1 x] at hhx
        have := (Bool.and_eq_true _ _ ▸ hhx).1
        exact of_decide_eq_true this
      clear hg1 hs1 hrg HG
      rcases Bool.eq_false_or_eq_true (x % 8 != 0) with t | t
      · have HRG1 : Hid (w1.ranges Tryz.prog 3 RV b w.heap.size (m + 1) D' (fun z => left z && !z.sameKey (.int .i64 x)) cnt1) := hrg1
        have HLT : Hid (cnt1 < cnt) := hlt
        have HT : Hid (x % 8 ≠ 0) := by
          show x % 8 ≠ 0
          simpa using t
        clear hrg1 hlt hat hhx hv hlk
        go_wp2_with (at_delete; refine wpList_delete_ranges _ rfl _ _ 43 3 rfl 32 kInt Tryz.underlying43 RV b w.heap.size (m + 1) D' _ cnt1 rfl HRG1.out _ _ rfl hkey ?_; intro w2 cnt2 hrg2 hle htn; rw [strike_twice] at hrg2; have HN : Hid (w2.ranges Tryz.prog 3 RV b w.heap.size (m + 1) (D'.del (.int .i64 x)) (fun z => left z && !z.sameKey (.int .i64 x)) cnt2 ∧ cnt2 ≤ cnt1 ∧ w.grownBy w2 (some b)) := ⟨hrg2, hle, HG1.out.andThen htn.grown (fun j hj => .inr hj)⟩; clear hrg2 hle htn; go_frame)
        have HM : Hid (w2.rangeLeft b w.heap.size < wr.rangeLeft b w.heap.size ∧ (∀ j : Int, Maps.has (D'.del (.int .i64 x)) (.int .i64 j) = (decide (0 ≤ j ∧ j ≤ m) && (decide (j % 8 = 0) || (left (.int .i64 j) && !(Lit.int .i64 j).sameKey (.int .i64 x))))) ∧ ∀ j : Nat, Maps.has (D'.del (.int .i64 x)) (.int .i64 j) = true → ∀ z, (D'.del (.int .i64 x)).atKey (.int .i64 j) z = .held (V j)) := by
          refine ⟨?_, fun j => ?_, fun j hj z => ?_⟩
          · rw [HN.out.1.left_eq, HLft.out]
            have := HLT.out
            have := HN.out.2.1
            omega
          · rw [sameKey_int]
            by_cases e : j = x
            · subst e
              rw [has_del_same, decide_eq_false HT.out]
              simp
            · rw [has_del_other (fun h => e (by injection h)), HK.out.1]
              simp [e]
          · by_cases e : (j : Int) = x
            · rw [e, has_del_same] at hj
              cases hj
            · rw [has_del_other (fun h => e (by injection h))] at hj
              rw [atKey_del_other (fun h => e (by injection h))]
              exact HK.out.2 j hj z
        go_roundw
        case rel => exact ⟨_, _, _, HN.out.1, HN.out.2.2, HM.out.2⟩
        case measure => exact HM.out.1
      · have HN : Hid (w1.ranges Tryz.prog 3 RV b w.heap.size (m + 1) D' (fun z => left z && !z.sameKey (.int .i64 x)) cnt1 ∧ w.grownBy w1 (some b) ∧ ((∀ j : Int, Maps.has D' (.int .i64 j) = (decide (0 ≤ j ∧ j ≤ m) && (decide (j % 8 = 0) || (left (.int .i64 j) && !(Lit.int .i64 j).sameKey (.int .i64 x))))) ∧ ∀ j : Nat, Maps.has D' (.int .i64 j) = true → ∀ z, D'.atKey (.int .i64 j) z = .held (V j)) ∧ w1.rangeLeft b w.heap.size < wr.rangeLeft b w.heap.size) := by
          refine ⟨hrg1, HG1.out, ⟨fun j => ?_, HK.out.2⟩, ?_⟩
          · rw [sameKey_int, HK.out.1]
            by_cases e : j = x
            · subst e
              have : decide (j % 8 = 0) = true := decide_eq_true (by simpa using t)
              rw [this]
              simp
            · simp [e]
          · rw [hrg1.left_eq, HLft.out]
            exact hlt
        clear hrg1 HK HG1 hlt hat hhx hkey hv hlk
        go_wp2
        go_roundw
        case rel => exact ⟨_, _, _, HN.out.1, HN.out.2.1, HN.out.2.2.1⟩
        case measure => exact HN.out.2.2.2

end Go.Proofs.YtcmmlklanjhfoaaGreatDoor

namespace Go.Proofs.YtcmmlklanjhfoaaGreatDoor
open Go.RowKit Go.Sort Go.Maps

/-- As Sto, and no two states share memory. -/
structure StA (w : World) (b T k : Nat) (g : Nat → I5) (n : Nat) (eh : Nat → E3) (V : Nat → Value) (D : DataW Value) : Prop extends Sto w b T k g n eh V D where
  ap : ∀ i j, i < j → j ≤ k → ∀ x, hasBlock (V i) x → ¬ hasBlock (V j) x
theorem StA.keepA {w w' : World} {b T k n : Nat} {g : Nat → I5} {eh : Nat → E3} {V : Nat → Value} {D : DataW Value} (h : StA w b T k g n eh V D) (hb : ∀ i, i = b ∨ T ≤ i → i < w.heap.size → w'.heap[i]? = w.heap[i]?) : StA w' b T k g n eh V D := ⟨h.toSto.keep hb, h.ap⟩
theorem StA.belowA {w w' : World} {b T k n : Nat} {g : Nat → I5} {eh : Nat → E3} {V : Nat → Value} {D : DataW Value} (h : StA w b T k g n eh V D) (hb : Below w.heap.size w w') : StA w' b T k g n eh V D := ⟨h.toSto.below hb, h.ap⟩
theorem StA.new {w w' : World} {b T n : Nat} {g : Nat → I5} {eh : Nat → E3} {v : Value} (ho : w'.ownsMap Tryz.prog 3 RV b (0 + 1) ((DataW.map []).put (.int .i64 0) (.held v))) (hg : w.grownBy w' (some b)) (hv : StOwn w T v newS.p newS.rs newS.os newS.c) (hT : b < T) : StA w' b T 0 g n eh (fun _ => v) ((DataW.map []).put (.int .i64 0) (.held v)) := ⟨Sto.new ho hg hv hT, fun i j hij hj => by omega⟩
theorem StA.putA {w w' : World} {b T k n : Nat} {g : Nat → I5} {eh : Nat → E3} {V : Nat → Value} {D : DataW Value} (h : StA w b T k g n eh V D) {v : Value} {S : S4} (ho : w'.ownsMap Tryz.prog 3 RV b (k + 1 + 1) (D.put (.int .i64 ((k : Int) + 1)) (.held v))) (hg : w.grownBy w' (some b)) (hS : rp g n eh (k + 1) = some S) (hv : StOwn w T v S.p S.rs S.os S.c) (hn : ∀ i, i ≤ k → ∀ j, hasBlock (V i) j → ¬ hasBlock v j) : StA w' b T (k + 1) g n eh (fun j => if j = k + 1 then v else V j) (D.put (.int .i64 ((k : Int) + 1)) (.held v)) := by
  refine ⟨h.toSto.put ho hg hS hv, fun i j hij hj x h1 => ?_⟩
  have hi : i ≠ k + 1 := by omega
  simp only [if_neg hi] at h1
  by_cases e : j = k + 1
  · simp only [if_pos e]
    exact hn i (by omega) x h1
  · simp only [if_neg e]
    exact h.ap i j hij (by omega) x h1
def StoRA (w : World) (g : Nat → I5) (n : Nat) (eh : Nat → E3) (m : Nat) (e : Ending) (w' : World) : Prop :=
  Below w.heap.size w w' ∧ (((repO g n eh m).isSome = false ∧ e = .returned (.tuple #[.map none, .bool false])) ∨ ((repO g n eh m).isSome = true ∧ ∃ b T V D, e = .returned (.tuple #[.map (some b), .bool true]) ∧ w.heap.size ≤ b ∧ T ≤ w'.heap.size ∧ StA w' b T m g n eh V D))

/-- Between the rounds of storeOf. -/
structure SrA (w wr : World) (A B C b T gb n gc k : Nat) (g : Nat → I5) (eh : Nat → E3) (S : S4) : Prop where
  rn : ∃ ra rc oa oc, Rn w wr A B C gb n gc k S.p S.c ra rc oa oc S.rs S.os ∧ ¬ hasBlock (stV S.p ra S.rs.length rc oa S.os.length oc S.c) b
  so : ∃ V D, StA wr b T k g n eh V D
  ne : b ≠ A ∧ b ≠ B ∧ b ≠ C ∧ w.heap.size ≤ b
  lt : A < T ∧ B < T ∧ C < T
  tw : T ≤ wr.heap.size
theorem SrA.below {w wr w' : World} {A B C b T gb n gc k : Nat} {g : Nat → I5} {eh : Nat → E3} {S : S4} (h : SrA w wr A B C b T gb n gc k g eh S) (hb : Below wr.heap.size wr w') : SrA w w' A B C b T gb n gc k g eh S := by
  obtain ⟨ra, rc, oa, oc, r, hh⟩ := h.rn
  obtain ⟨V, D, s⟩ := h.so
  exact ⟨⟨ra, rc, oa, oc, r.below hb, hh⟩, ⟨V, D, s.belowA hb⟩, h.ne, h.lt, Nat.le_trans h.tw hb.size⟩

set_option maxRecDepth 100000 in
set_option maxHeartbeats 4000000 in
theorem storeOf_yesA (gb n gc : Nat) (ea : Option Addr) (m ec : Nat) (g : Nat → I5) (eh : Nat → E3) (w : World) (hn : n ≤ maxLen) (hg : gb < w.heap.size) (hI : InsAt w gb 0 n g) (hp : progOkB g n 4 = true) (hE : EvL w ea m eh) (hm : m ≤ 1048576) :
    Calls Tryz.prog 18 #[.slice (some ⟨gb, 0, none⟩) n gc, .slice ea m ec] w (StoRA w g n eh m) := by
  have HI : Hid (InsAt w gb 0 n g) := hI
  have HE : Hid (EvL w ea m eh) := hE
  have HP : Hid (progOkB g n 4 = true) := hp
  have HL : Hid (n ≤ maxLen) := hn
  have hm' : (m : Int) ≤ 1048576 := by omega
  have HO : Hid (repO g n eh m = if m ≤ 200 then rp g n eh m else none) := by
    show repO g n eh m = _
    unfold repO
    by_cases h2 : m ≤ 200
    · rw [if_pos ⟨hp, h2⟩, if_pos h2]
    · rw [if_neg (by omega), if_neg h2]
  clear hI hn hp hE
  have hmm := @run_makeMap Tryz.prog
  go_enter Tryz.func18, Tryz.ntmps18
  go_wp2_with fail
  refine (runOf_any gb n gc g w HL.out hg HI.out HP.out).mono ?_
  rintro e w1 ⟨A, B, C, ra, rc, oa, oc, rfl, R1⟩
  have HR1 : Hid (Rn w w1 A B C gb n gc 0 0 0 ra rc oa oc [0, 0, 0, 0] []) := R1
  clear R1
  go_wp2_with fail
  have HM2 : Hid ((w1.alloc (.map #[] 0)).ownsMap Tryz.prog 3 RV w1.heap.size 0 (.map [])) := World.ownsMap_made _ _ _ _
  have hz2 : (w1.alloc (.map #[] 0)).heap.size = w1.heap.size + 1 := by simp
  have HR2 : Hid (Rn w (w1.alloc (.map #[] 0)) A B C gb n gc 0 0 0 ra rc oa oc [0, 0, 0, 0] []) := HR1.out.below (below_alloc _ _)
  generalize w1.alloc (.map #[] 0) = w2 at *
  refine (implStateNew_any w2).mono ?_
  rintro e w3 ⟨v3, rfl, o3, b3⟩
  obtain ⟨ra3, rc3, oa3, oc3, rfl, -, -⟩ := o3.read
  have HR3 : Hid (Rn w w3 A B C gb n gc 0 0 0 ra rc oa oc [0, 0, 0, 0] []) := HR2.out.below b3
  have HM3 : w3.ownsMap Tryz.prog 3 RV w1.heap.size 0 (.map []) := ownsMap_blk HM2.out (b3.block _ (by omega))
  have HO3 : Hid (StOwn w3 w2.heap.size (stV 0 ra3 4 rc3 oa3 0 oc3 0) 0 [0, 0, 0, 0] [] 0) := o3
  have z3 := b3.size
  clear o3 b3 HM2 HR2
  obtain ⟨w4, hup, hown4, hg4⟩ := HM3.update kInt Tryz.underlying43 (by decide) (keyOf_int_mk Tryz.underlying3 (a := 0) (by decide)) (val := stV 0 ra3 4 rc3 oa3 0 oc3 0) rfl
  have HSR : Hid (SrA w w4 A B C w1.heap.size w2.heap.size gb n gc 0 g eh newS) := by
    have zA : A < w1.heap.size := World.block_lt_of_cell? w1 _ HR1.out.la
    have zB : B < w1.heap.size := HR1.out.tl.hi
    have zC : C < w1.heap.size := World.block_lt_of_cell? w1 _ HR1.out.ck
    have zw : w.heap.size ≤ w1.heap.size := HR1.out.be.size
    have hnb : ¬ hasBlock (stV 0 ra 4 rc oa 0 oc 0) w1.heap.size := fun e => by
      have := HR1.out.tl.up _ e
      omega
    exact ⟨⟨ra, rc, oa, oc, HR3.out.keepX ⟨by omega, by omega, by omega, zw⟩ hnb hg4, hnb⟩, ⟨_, _, StA.new hown4 hg4 HO3.out (by omega)⟩, ⟨by omega, by omega, by omega, zw⟩, ⟨by omega, by omega, by omega⟩, Nat.le_trans z3 hg4.size⟩
  clear hown4 hg4 HM3 HR3 HO3 HR1 hmm
  generalize w1.heap.size = b at *
  generalize w2.heap.size = T at *
  clear hz2 z3
  go_wp2_with fail
  clear hup
  go_loopw [25] (fun i wr => ∃ k : Nat, k ≤ m ∧ i = .int .i64 k ∧ Hid (k ≤ 200 ∧ ∃ S, rp g n eh k = some S ∧ OkS n S ∧ SrA w wr A B C b T gb n gc k g eh S)) (fun i _ => m - (intOf i).toNat)
  case atStart => exact ⟨0, Nat.zero_le _, rfl, by omega, newS, rfl, newS_ok HP.out, HSR.out⟩
  case round =>
    clear HSR
    obtain ⟨k, hk, rfl, HK⟩ := hrel
    obtain ⟨hk2, S, hrp, hok, hsr⟩ := HK.out
    have hbe : Below w.heap.size w wr := by
      obtain ⟨_, _, _, _, r, _⟩ := hsr.rn
      exact r.be
    by_cases hlt : k < m
    · have hlt' : (k : Int) < (m : Int) := by omega
      obtain ⟨eb, eo, rfl, -, c0, c1, c2⟩ := (HE.out.below hbe).at hlt
      have HRP : Hid (rp g n eh k = some S) := hrp
      have HOK : Hid (OkS n S) := hok
      have HK2 : Hid (k ≤ 200) := hk2
      have hRq : SrA w (wr.alloc (.cells #[.int .i64 (eh k).k, .int .i64 (eh k).q, .int .i64 (eh k).v] 62)) A B C b T gb n gc k g eh S := hsr.below (below_alloc _ _)
      have HRq : Hid (SrA w (wr.alloc (.cells #[.int .i64 (eh k).k, .int .i64 (eh k).q, .int .i64 (eh k).v] 62)) A B C b T gb n gc k g eh S) := hRq
      clear hrp hok hsr hk2 hbe HK hRq
      go_wp2_with fail
      generalize wr.alloc (.cells #[.int .i64 (eh k).k, .int .i64 (eh k).q, .int .i64 (eh k).v] 62) = wq at *
      obtain ⟨qra, qrc, qoa, qoc, qrn, -⟩ := HRq.out.rn
      have hlen := OkS.len HOK.out
      clear c0 c1 c2
      refine (runOf1_any A B C gb n gc k g S.p S.c qra qrc qoa qoc S.rs S.os _ _ _ w wq qrn HL.out hg HI.out HP.out HK2.out (by omega) (by omega)).mono ?_
      rintro e w5 ⟨kp, hd⟩
      rcases hd with ⟨tT, tk, ra7, rc7, oa7, oc7, rfl, R7, J7⟩ | ⟨tF, rfl, be7⟩
      · have HS' : Hid (rp g n eh (k + 1) = some (doS g n S.p S.rs S.os S.c (eh k).k (eh k).q (eh k).v)) := rp_yes HRP.out tT
        have HO' : Hid (OkS n (doS g n S.p S.rs S.os S.c (eh k).k (eh k).q (eh k).v)) := doS_ok tT
        have HK3 : Hid (k + 1 ≤ 200) := by
          show k + 1 ≤ 200
          have := HK2.out
          omega
        generalize doS g n S.p S.rs S.os S.c (eh k).k (eh k).q (eh k).v = S' at *
        obtain ⟨V, D, so⟩ := HRq.out.so
        obtain ⟨nA, nB, nC, nw⟩ := HRq.out.ne
        obtain ⟨lA, lB, lC⟩ := HRq.out.lt
        have tw := HRq.out.tw
        have hbw : b < wq.heap.size := so.own.lt
        have so5 : StA w5 b T k g n eh V D := so.keepA fun i hi hl => kp.2 i hl (by rcases hi with e | e <;> omega) (by rcases hi with e | e <;> omega)
        have bq := below_alloc w5 (.cells #[.int .i64 S'.p, .slice ra7 S'.rs.length rc7, .slice oa7 S'.os.length oc7, .int .i64 S'.c] 32)
        have so6 := so5.belowA bq
        have nb : ¬ hasBlock (stV S'.p ra7 S'.rs.length rc7 oa7 S'.os.length oc7 S'.c) b := fun e => by
          have := J7 b e
          omega
        obtain ⟨w7, hup, hown7, hg7⟩ := so6.own.update kInt Tryz.underlying43 (by unfold maxLen; omega) (keyOf_int_mk Tryz.underlying3 (a := (k : Int) + 1) (wf64 (by omega) (by omega))) (val := stV S'.p ra7 S'.rs.length rc7 oa7 S'.os.length oc7 S'.c) rfl
        have HN : Hid (SrA w w7 A B C b T gb n gc (k + 1) g eh S') := ⟨⟨ra7, rc7, oa7, oc7, (R7.below bq).keepX ⟨nA, nB, nC, nw⟩ nb hg7, nb⟩, ⟨_, _, so6.putA hown7 hg7 HS'.out ((R7.tl.own.up fun j hj => Nat.le_trans tw (J7 j hj)).below bq) (fun i hi j h1 h2 => by
            obtain ⟨S1, -, o1⟩ := so.st i hi
            have h3 := (o1.lt h1).2
            have h4 := J7 j h2
            omega)⟩, ⟨nA, nB, nC, nw⟩, ⟨lA, lB, lC⟩, Nat.le_trans tw (Nat.le_trans kp.1 (Nat.le_trans bq.size hg7.size))⟩
        clear R7 J7 qrn kp tT tk so so5 so6 hown7 hg7 nb bq nA nB nC nw lA lB lC tw hbw hlen
        go_wp2
        go_roundw
        case rel => exact ⟨k + 1, by omega, by go_num, HK3.out, S', HS'.out, HO'.out, HN.out⟩
        case measure => simp [intOf]; omega
      · have HON : Hid ((repO g n eh m).isSome = false) := by
          show (repO g n eh m).isSome = false
          have : repO g n eh m = none := by
            rw [HO.out]
            rcases tF with tF | tF
            · by_cases h2 : m ≤ 200
              · rw [if_pos h2]
                exact rp_over (rp_no HRP.out tF) (by omega)
              · rw [if_neg h2]
            · rw [if_neg (by omega)]
          rw [this]
          rfl
        have B5 : Hid (Below w.heap.size w w5) := be7
        clear qrn kp tF be7 hlen
        go_wp2
        refine bodyPost_ret (v := .tuple #[.map none, .bool false]) (by simp [results, Tryz.results18, go_sem]) rfl ⟨B5.out.trans ((below_alloc _ _).mono B5.out.size), .inl ⟨HON.out, rfl⟩⟩
    · have hkm : k = m := by omega
      subst hkm
      have HOS : Hid ((repO g n eh k).isSome = true) := by
        show (repO g n eh k).isSome = true
        rw [HO.out, if_pos hk2, hrp]
        rfl
      obtain ⟨V, D, so⟩ := hsr.so
      have HSO : Hid (StA wr b T k g n eh V D) := so
      have HBE : Hid (Below w.heap.size w wr) := hbe
      have HBW : Hid (w.heap.size ≤ b) := hsr.ne.2.2.2
      have HTW : Hid (T ≤ wr.heap.size) := hsr.tw
      clear so hsr hbe hrp hok hk2 HK
      go_wp2
      exact bodyPost_ret (v := .tuple #[.map (some b), .bool true]) (by simp [results, Tryz.results18, go_sem]) rfl ⟨HBE.out, .inr ⟨HOS.out, b, T, V, D, rfl, HBW.out, HTW.out, HSO.out⟩⟩

end Go.Proofs.YtcmmlklanjhfoaaGreatDoor

namespace Go.Proofs.YtcmmlklanjhfoaaGreatDoor
open Go.ChangeShapes Go.WideShapes Go.ChangeAt Go.RowKit Go.Deep Go.Maps

theorem LK.congr {w : World} {P : Nat → Prop} {v : Value} {n : Nat} {N N' : Nat → Int} {vs vs' : Nat → Value} {S S' : Nat → S4} (o : LK w P v n N vs S) (h : ∀ i, i < n → N i = N' i ∧ vs i = vs' i ∧ S i = S' i) : LK w P v n N' vs' S' := by
  refine ⟨?_, fun i hi => ?_, o.rb, fun i hi k hk => ?_, fun i hi k hk => ?_, fun i j hi hj hij k hk => ?_⟩
  · rw [← flat_congr (f := fun i => .int .i64 (N i) :: cellsL (vs i)) fun i hi => by rw [(h i hi).1, (h i hi).2.1]]
    exact o.row
  · rw [← (h i hi).2.1, ← (h i hi).2.2]
    exact o.own i hi
  · rw [← (h i hi).2.1] at hk
    exact o.ob i hi k hk
  · rw [← (h i hi).2.1] at hk
    exact o.ra i hi k hk
  · rw [← (h i hi).2.1] at hk
    rw [← (h j hj).2.1]
    exact o.oa i j hi hj hij k hk
/-- A state that was there already is appended. -/
theorem LK.pushOld {w w1 w2 : World} {P : Nat → Prop} {v v' : Value} {n : Nat} {N : Nat → Int} {vs : Nat → Value} {S : Nat → S4} (o : LK w P v n N vs S) (b1 : Below w.heap.size w w1) (hu : StOwn w 0 (vs n) (S n).p (S n).rs (S n).os (S n).c) (hv : w2.ownsRow 0 48 5 v' (n + 1) (flat (fun i => .int .i64 (N i) :: cellsL (vs i)) n ++ (.int .i64 (N n) :: cellsL (vs n)))) (g : w1.grownBy w2 v.ownBlock)
    (hv' : ∀ j, v'.ownBlock = some j → v.ownBlock = some j ∨ w1.heap.size ≤ j) (hb : ∀ k, hasBlock (vs n) k → P k ∧ v.ownBlock ≠ some k) (ha : ∀ i, i < n → ∀ k, hasBlock (vs i) k → ¬ hasBlock (vs n) k) (hP : ∀ k, w1.heap.size ≤ k → k < w2.heap.size → P k) : LK w2 P v' (n + 1) N vs S := by
  have hvlt : ∀ k, v.ownBlock = some k → k < w.heap.size := fun k hk => (o.row.lt k hk).2
  have h2 : ∀ {u : Value} {T : S4}, StOwn w 0 u T.p T.rs T.os T.c → (∀ k, hasBlock u k → v.ownBlock ≠ some k) → StOwn w2 0 u T.p T.rs T.os T.c := fun hu hr => hu.blk fun k hk => (g.block k (Nat.lt_of_lt_of_le (hu.lt hk).2 b1.size) fun e => hr k hk e.symm).trans (b1.block k (hu.lt hk).2)
  have nw : ∀ k, v'.ownBlock = some k → ∀ {u : Value} {T : S4}, StOwn w 0 u T.p T.rs T.os T.c → (∀ k, hasBlock u k → v.ownBlock ≠ some k) → ¬ hasBlock u k := fun k hk {u T} hu hr h => by
    rcases hv' k hk with e | e
    · exact hr k h e
    · have := (hu.lt h).2
      have := b1.size
      omega
  refine ⟨hv, fun i hi => ?_, fun k hk => ?_, fun i hi k hk => ?_, fun i hi k hk e => ?_, fun i j hi hj hij k hk => ?_⟩
  · by_cases e : i = n
    · subst e
      exact h2 hu fun k hk => (hb k hk).2
    · exact h2 (o.own i (by omega)) fun k hk => o.ra i (by omega) k hk
  · rcases hv' k hk with e | e
    · exact o.rb k e
    · exact hP k e (hv.lt k hk).2
  · by_cases e : i = n
    · subst e
      exact (hb k hk).1
    · exact o.ob i (by omega) k hk
  · by_cases ei : i = n
    · subst ei
      exact nw k e hu (fun k hk => (hb k hk).2) hk
    · exact nw k e (o.own i (by omega)) (fun k hk => o.ra i (by omega) k hk) hk
  · by_cases ei : i = n
    · subst ei
      exact fun h => ha j (by omega) k h hk
    · by_cases ej : j = n
      · subst ej
        exact ha i (by omega) k hk
      · exact o.oa i j (by omega) (by omega) hij k hk

theorem run_make_kpc (c : Nat) (hc : c ≤ 1048576) (w : World) :
    (Instr.makeSlice 28 (.int .i64 0) (.int .i64 (c : Int))).run Tryz.prog w = .ok (.slice (some ⟨w.heap.size, 0, none⟩) 0 c) (w.alloc (.cells (madeCells #[.int .i64 0, .int .i64 0, .slice none 0 0, .slice none 0 0, .int .i64 0] (c * 5)) 48)) := by
  have hinfo := infoKpt
  cases hi : Tryz.prog.info? 48 with
  | none => rw [hi] at hinfo; cases hinfo
  | some i =>
    rw [hi] at hinfo
    simp only [Option.map_some, Option.some.injEq, Prod.mk.injEq] at hinfo
    obtain ⟨hz, hs, hb⟩ := hinfo
    have h := run_make (P := Tryz.prog) w 28 48 i _ Tryz.underlying28 hi hz .i64 .i64 (0 : Int) (c : Int) (by omega) (by omega) (by rw [hb]; omega) (by omega)
    rw [hs] at h
    have h2 : (Instr.makeSlice 28 (.int .i64 0) (.int .i64 (c : Int))).run Tryz.prog w = .ok (.slice (some ⟨w.heap.size, 0, none⟩) 0 c) (w.alloc (.cells (madeCells (kpV 0 0 none 0 0 none 0 0 0).cells (c * 5)) 48)) := by simpa using h
    exact h2
theorem LK.madeC (w : World) (P : Nat → Prop) (hP : P w.heap.size) (c : Nat) (hc : c ≤ 1048576) (N : Nat → Int) (vs : Nat → Value) (S : Nat → S4) : LK (w.alloc (.cells (madeCells #[.int .i64 0, .int .i64 0, .slice none 0 0, .slice none 0 0, .int .i64 0] (c * 5)) 48)) P (.slice (some ⟨w.heap.size, 0, none⟩) 0 c) 0 N vs S :=
  ⟨World.ownsRow_made (base := 0) w _ c (Nat.zero_le _) (by unfold maxLen; omega) (size_madeCells _ _), fun i hi => (by omega), fun k hk => by cases hk; exact hP, fun i hi => (by omega), fun i hi => (by omega), fun i j hi => (by omega)⟩

/-- The state behind j events. -/
def sAt (g : Nat → I5) (n : Nat) (eh : Nat → E3) (j : Nat) : S4 := resS (rp g n eh j)

/-- Between the rounds of told: those that have come are told, each once. -/
structure To (w wr : World) (r T m k : Nat) (g : Nat → I5) (n : Nat) (eh : Nat → E3) (V : Nat → Value) (L : Nat → Nat) (v : Value) (left : Lit → Bool) : Prop where
  lk : LK wr (fun x => T ≤ x ∧ x ≠ r) v k (fun i => ((L i : Nat) : Int)) (fun i => V (L i)) (fun i => sAt g n eh (L i))
  be : Below w.heap.size w wr
  le : ∀ i, i < k → L i ≤ m ∧ L i % 8 = 0
  ne : ∀ i j, i < k → j < k → i ≠ j → L i ≠ L j
  lf : ∀ j : Nat, left (.int .i64 (j : Int)) = true ↔ (j ≤ m ∧ j % 8 = 0 ∧ ∀ i, i < k → L i ≠ j)
  vb : ∀ x, v.ownBlock = some x → w.heap.size ≤ x

end Go.Proofs.YtcmmlklanjhfoaaGreatDoor
