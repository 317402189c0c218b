/- A system as it was at a cut. -/
import Derived.Test.YtfdanemmefckpaaGreatDoorOc0
import Derived.Test.YtfdanemmefckpaaGreatDoorOc20
import Derived.Test.YtfdanemmefckpaaGreatDoorOc18
import Derived.Test.YtfdanemmefckpaaGreatDoorOc22
import Derived.Test.YtfdanemmefckpaaGreatDoorOc19
import Derived.Deep.RegionHeld3
import Derived.Deep.CutRange
import Derived.Deep.RegionWith
namespace Go.Proofs.YtfdanemmefckpaaGreatDoor
set_option maxRecDepth 100000
set_option maxHeartbeats 4000000
open Go.ChangeShapes Go.WideShapes Go.ChangeAt Go.RowKit Go.Deep
theorem LI.strong {z : Bool} {w : World} {P : Nat → Prop} {v : Value} {n : Nat} {u : Nat → Value} {L : Nat → Nat} {H : Nat → Nat → I5} (o : LI z w P v n u L H) : LI true w P v n u L H := ⟨o.row, o.own, o.rb, o.ob, o.ra, o.oa, fun _ => o.nn nzI⟩
theorem eqItemS_none (b m : Nat) (w : World) : Calls Tryz.prog 104 #[.slice (some ⟨b, 0, none⟩) 0 m, .slice none 0 0] w fun e w' => e = .returned (.bool true) ∧ Below w.heap.size w w' := by
 go_enter Tryz.func104, Tryz.ntmps104
 go_wp2_with fail
 go_loopw [5] (fun i wr => i = .int .i64 0 ∧ Below w.heap.size w wr) (fun _ _ => 0)
 case atStart => exact ⟨rfl, Below.refl _ _⟩
 case round =>
  obtain ⟨rfl, hbw⟩ := hrel
  go_wp2
  go_ret
  exact ⟨rfl, hbw⟩
theorem eqItemS_two {B1 B2 n : Nat} {u1 u2 : Value} {g : Nat → I2} {w : World} (hn : n ≤ 1048576) (o1 : w.ownsRow B1 95 2 u1 n (fT g n)) (n1 : u1 ≠ .slice none 0 0) (o2 : w.ownsRow B2 95 2 u2 n (fT g n)) :
  Calls Tryz.prog 104 #[u1, u2] w fun e w' => e = .returned (.bool true) ∧ Below w.heap.size w w' := by
 obtain ⟨b1, m1, rfl, l1, i1, -⟩ := atT o1 n1
 by_cases h : u2 = .slice none 0 0
 ·subst h
  rcases o2.2 with ⟨-, h0⟩ | ⟨g, cap, cur, e, -⟩
  ·subst h0
   exact eqItemS_none b1 m1 w
  ·cases e
 ·obtain ⟨b2, m2, rfl, l2, i2, -⟩ := atT o2 h
  exact eqItemS_same b1 b2 n m1 m2 g w hn l1 l2 i1 i2
theorem eqEventS_none (b m : Nat) (w : World) : Calls Tryz.prog 105 #[.slice (some ⟨b, 0, none⟩) 0 m, .slice none 0 0] w fun e w' => e = .returned (.bool true) ∧ Below w.heap.size w w' := by
 go_enter Tryz.func105, Tryz.ntmps105
 go_wp2_with fail
 go_loopw [5] (fun i wr => i = .int .i64 0 ∧ Below w.heap.size w wr) (fun _ _ => 0)
 case atStart => exact ⟨rfl, Below.refl _ _⟩
 case round =>
  obtain ⟨rfl, hbw⟩ := hrel
  go_wp2
  go_ret
  exact ⟨rfl, hbw⟩
theorem eqEventS_two {B1 B2 n : Nat} {u1 u2 : Value} {g : Nat → E3} {w : World} (hn : n ≤ 1048576) (o1 : w.ownsRow B1 106 3 u1 n (fE g n)) (n1 : u1 ≠ .slice none 0 0) (o2 : w.ownsRow B2 106 3 u2 n (fE g n)) :
  Calls Tryz.prog 105 #[u1, u2] w fun e w' => e = .returned (.bool true) ∧ Below w.heap.size w w' := by
 obtain ⟨b1, m1, rfl, l1, i1, -⟩ := atE o1 n1
 by_cases h : u2 = .slice none 0 0
 ·subst h
  rcases o2.2 with ⟨-, h0⟩ | ⟨g, cap, cur, e, -⟩
  ·subst h0
   exact eqEventS_none b1 m1 w
  ·cases e
 ·obtain ⟨b2, m2, rfl, l2, i2, -⟩ := atE o2 h
  exact eqEventS_same b1 b2 n m1 m2 g w hn l1 l2 i1 i2
structure Sy.Sm (y : Sy) : Prop where
 n : y.pn ≤ 16 ∧ y.sn ≤ 16 ∧ y.wn ≤ 16 ∧ y.hn ≤ 16
 p : ∀ i, i < y.pn → y.pL i ≤ 1000
 s : ∀ i, i < y.sn → (y.sS i).rs.length ≤ 1000 ∧ (y.sS i).os.length ≤ 1000
 w : ∀ i, i < y.wn → y.wL i ≤ 1000
 h : ∀ i, i < y.hn → y.hL i ≤ 1000
theorem okS_len {n : Nat} {S : S4} (h : OkS n S) : S.rs.length ≤ 60 ∧ S.os.length ≤ 60 := by
 obtain ⟨⟨r0, r1, r2, r3, e, -⟩, -, h60, -⟩ := st_parts h
 exact ⟨by rw [e]; simp, h60⟩
theorem Sy.Ok.bds {y : Sy} (h : y.Ok) : (∀ i, i < y.pn → y.pL i ≤ 30) ∧ (∀ i, i < y.sn → OkS (y.pL i) (y.sS i)) ∧ (∀ i, i < y.wn → y.wL i ≤ 12) ∧ (∀ i, i < y.hn → y.hL i ≤ 200) := by
 obtain ⟨⟨h1, h4⟩, hs, hh, hw⟩ := h.cn
 refine ⟨fun i hi => ?_, fun i hi => h.st (by omega), fun i hi => ?_, fun i hi => h.le200 (by omega)⟩
 ·have h1 := h.four hi
  simp only [progOkB, Bool.and_eq_true, inB, decide_eq_true_eq] at h1
  have := h1.2.1
  omega
 ·rw [hw] at hi
  have ha : i / y.pn < y.pn := Nat.div_lt_of_lt_mul hi
  have hb : i % y.pn < y.pn := Nat.mod_lt _ (by omega)
  have e : i / y.pn * y.pn + i % y.pn = i := by rw [Nat.mul_comm]; exact Nat.div_add_mod i y.pn
  have := h.way ha hb
  rw [e] at this
  exact this
theorem Sy.Ok.sm {y : Sy} (h : y.Ok) : y.Sm := by
 obtain ⟨⟨h1, h4⟩, hs, hh, hw⟩ := h.cn
 obtain ⟨b1, b2, b3, b4⟩ := h.bds
 have h16 : y.pn * y.pn ≤ 16 := Nat.le_trans (Nat.mul_le_mul h4 h4) (by omega)
 exact ⟨⟨by omega, by omega, by omega, by omega⟩, fun i hi => by have := b1 i hi; omega, fun i hi => by have := okS_len (b2 i hi); omega, fun i hi => by have := b3 i hi; omega, fun i hi => by have := b4 i hi; omega⟩
open Go.Sort
structure SysIn.One (x : SysIn) (p : Nat) : Prop where
 pr : progOkB (x.pH p) (x.pL p) x.pn = true
 st : x.StP p
 pe : ∀ i, i < x.hL p → (x.hH p i).q < (x.pn : Int)
def SysIn.Two (x : SysIn) (a b : Nat) : Prop := WayP (x.wH (a * x.pn + b)) (x.wL (a * x.pn + b)) (valL (x.hH b) 3 a (x.hL b)) (valL (x.hH a) 2 b (x.hL a))
theorem sy_two {x : SysIn} (hc : (1 ≤ x.pn ∧ x.pn ≤ 4) ∧ x.sn = x.pn ∧ x.hn = x.pn ∧ x.wn = x.pn * x.pn) (h1 : ∀ p, p < x.pn → x.One p) (h2 : ∀ a, a < x.pn → ∀ b, b < x.pn → x.Two a b) (h3 : x.y.hs.Row) : x.y.Ok :=
 ⟨hc, fun p hp => (h1 p hp).pr, fun p hp => (h1 p hp).st, fun p hp => (h1 p hp).pe, h2, h3⟩
theorem sy_one {x : SysIn} (h : x.y.Ok) {p : Nat} (hp : p < x.pn) : x.One p := ⟨h.pr p hp, h.rp p hp, h.pe p hp⟩
theorem sy_way {x : SysIn} (h : x.y.Ok) {a b : Nat} (ha : a < x.pn) (hb : b < x.pn) : x.Two a b := h.wa a ha b hb
theorem specSysOk_any (x : SysIn) (w : World) (hG : SysG w x) (hL : x.Len) (hcap : ∀ i, i < x.hn → x.hL i ≤ x.hC i) :
  Calls Tryz.prog 28 #[x.v] w fun e w' => e = .returned (.bool x.y.okB) ∧ Below w.heap.size w w' := by
 have HG : Hid (SysG w x) := hG
 have HL : Hid x.Len := hL
 have HCap : Hid (∀ i, i < x.hn → x.hL i ≤ x.hC i) := hcap
 have hpn : (x.pn : Int) ≤ 1048576 := by have := hL.p.1; omega
 have hm0 : 0 ≤ (x.pn : Int) * (x.pn : Int) := Int.mul_nonneg (by omega) (by omega)
 have hm1 : (x.pn : Int) * (x.pn : Int) ≤ 1099511627776 := by
  have := Int.mul_le_mul hpn hpn (by omega) (by omega)
  omega
 have BA : Hid (Below w.heap.size w (w.alloc (oQ4 x.pa x.pn x.pc x.sa x.sn x.sc x.wa x.wn x.wc x.ha x.hn x.hc))) := below_alloc _ _
 have NB : Hid (BoxC (w.alloc (oQ4 x.pa x.pn x.pc x.sa x.sn x.sc x.wa x.wn x.wc x.ha x.hn x.hc)) w.heap.size (.slice x.pa x.pn x.pc) (.slice x.sa x.sn x.sc) (.slice x.wa x.wn x.wc) (.slice x.ha x.hn x.hc)) := BoxC.new w _ _ _ _ _
 clear hG hL hcap
 by_cases hc : (1 ≤ x.pn ∧ x.pn ≤ 4) ∧ x.sn = x.pn ∧ x.hn = x.pn ∧ x.wn = x.pn * x.pn
 case neg =>
  have HN : Hid (x.y.okB = false) := Sy.okB_false fun h => hc h.cn
  rcases Bool.eq_false_or_eq_true (inB x.pn 1 4) with t1 | t1
  case inr =>
   clear hc
   go_enter Tryz.func28, Tryz.ntmps28
   go_wp2_with fail
   refine (l1In_any _ _ _ _).mono ?_
   rintro e w1 ⟨rfl, rfl⟩
   rw [t1]
   go_wp2
   go_ret
   rw [HN.out]
   exact ⟨rfl, BA.out⟩
  rcases Bool.eq_false_or_eq_true ((x.sn : Int) != (x.pn : Int)) with t2 | t2
  case inl =>
   clear hc
   go_enter Tryz.func28, Tryz.ntmps28
   go_wp2_with fail
   refine (l1In_any _ _ _ _).mono ?_
   rintro e w1 ⟨rfl, rfl⟩
   rw [t1]
   go_wp2
   go_ret
   rw [HN.out]
   exact ⟨rfl, BA.out⟩
  rcases Bool.eq_false_or_eq_true ((x.hn : Int) != (x.pn : Int)) with t3 | t3
  case inl =>
   clear hc
   go_enter Tryz.func28, Tryz.ntmps28
   go_wp2_with fail
   refine (l1In_any _ _ _ _).mono ?_
   rintro e w1 ⟨rfl, rfl⟩
   rw [t1]
   go_wp2
   go_ret
   rw [HN.out]
   exact ⟨rfl, BA.out⟩
  have t4 : ((x.wn : Int) != (x.pn : Int) * (x.pn : Int)) = true := by
   have t1' : 1 ≤ (x.pn : Int) ∧ (x.pn : Int) ≤ 4 := by simpa [inB] using t1
   have t2' : (x.sn : Int) = x.pn := by simpa using t2
   have t3' : (x.hn : Int) = x.pn := by simpa using t3
   have : ¬ (x.wn : Int) = (x.pn : Int) * (x.pn : Int) := fun e => hc ⟨⟨by omega, by omega⟩, by omega, by omega, by
    have : ((x.wn : Nat) : Int) = ((x.pn * x.pn : Nat) : Int) := by rw [e, Int.natCast_mul]
    omega⟩
   simpa using this
  clear hc
  go_enter Tryz.func28, Tryz.ntmps28
  go_wp2_with fail
  refine (l1In_any _ _ _ _).mono ?_
  rintro e w1 ⟨rfl, rfl⟩
  rw [t1]
  go_wp2
  go_ret
  rw [HN.out]
  exact ⟨rfl, BA.out⟩
 have t1 : inB x.pn 1 4 = true := by simp [inB]; omega
 have t2 : ((x.sn : Int) != (x.pn : Int)) = false := by simp [hc.2.1]
 have t3 : ((x.hn : Int) != (x.pn : Int)) = false := by simp [hc.2.2.1]
 have t4 : ((x.wn : Int) != (x.pn : Int) * (x.pn : Int)) = false := by rw [hc.2.2.2, Int.natCast_mul]; simp
 have hp4 : (x.pn : Int) ≤ 4 := by omega
 have HC : Hid ((1 ≤ x.pn ∧ x.pn ≤ 4) ∧ x.sn = x.pn ∧ x.hn = x.pn ∧ x.wn = x.pn * x.pn) := hc
 clear hc
 go_enter Tryz.func28, Tryz.ntmps28
 go_wp2_with fail
 refine (l1In_any _ _ _ _).mono ?_
 rintro e w1 ⟨rfl, rfl⟩
 rw [t1]
 go_wp2_with fail
 clear hm0 hm1 t1 t2 t3 t4 hpn
 generalize w.alloc (oQ4 x.pa x.pn x.pc x.sa x.sn x.sc x.wa x.wn x.wc x.ha x.hn x.hc) = wb at *
 go_loopw [4] (fun i wr => ∃ k : Nat, k ≤ x.pn ∧ i = .int .i64 k ∧ Hid (Below wb.heap.size wb wr ∧ ∀ j, j < k → x.One j)) (fun i _ => x.pn - (intOf i).toNat)
 case atStart => exact ⟨0, Nat.zero_le _, rfl, Below.refl _ _, fun j hj => by omega⟩
 case round =>
  obtain ⟨k, hk, rfl, HZ⟩ := hrel
  have hbw : Below w.heap.size w wr := BA.out.trans (HZ.out.1.mono BA.out.size)
  have HBW : Hid (Below w.heap.size w wr) := hbw
  obtain ⟨b0, b1, b2, b3⟩ := NB.out.below HZ.out.1
  by_cases hlt : k < x.pn
  ·have hlt' : (k : Int) < (x.pn : Int) := by omega
   obtain ⟨bp, op, ep, ck⟩ := (HG.out.below hbw).p.at hlt
   obtain ⟨b, eb, hbl, hI⟩ := (HG.out.below hbw).pi k hlt
   rw [eb] at ck
   rw [ep] at b0
   have HI : Hid (InsAt wr b 0 (x.pL k) (x.pH k)) := hI
   have HM : Hid (x.pL k ≤ maxLen) := by
    show x.pL k ≤ maxLen
    have := HL.out.p.2 k hlt
    unfold maxLen
    omega
   clear hI hbw
   go_wp2_with fail
   refine (specProgOk_any b 0 (x.pL k) _ (x.pH k) x.pn wr HM.out hbl HI.out).mono ?_
   rintro e w2 ⟨rfl, c2⟩
   have HZ2 : Hid (Below wb.heap.size wb w2 ∧ ∀ j, j < k → x.One j) := ⟨HZ.out.1.trans (c2.mono HZ.out.1.size), HZ.out.2⟩
   have HB2 : Hid (Below w.heap.size w w2) := HBW.out.trans (c2.mono HBW.out.size)
   clear b0 b1 b2 b3 ck c2 HZ HBW HI hbl
   rcases Bool.eq_false_or_eq_true (progOkB (x.pH k) (x.pL k) x.pn) with tp | tp
   case inr =>
    have HN : Hid (x.y.okB = false) := Sy.okB_false fun h => by
     have := (sy_one h hlt).pr
     rw [tp] at this
     cases this
    rw [tp]
    go_wp2
    go_ret
    rw [HN.out]
    exact ⟨rfl, HB2.out⟩
   have TP : Hid (progOkB (x.pH k) (x.pL k) x.pn = true) := tp
   rw [tp]
   clear tp
   have hkh : k < x.hn := by have := HC.out; omega
   have hks : k < x.sn := by have := HC.out; omega
   have hkh' : (k : Int) < (x.hn : Int) := by omega
   have hks' : (k : Int) < (x.sn : Int) := by omega
   obtain ⟨b0, b1, b2, b3⟩ := NB.out.below HZ2.out.1
   obtain ⟨bp', op', ep', ck⟩ := (HG.out.below HB2.out).p.at hlt
   obtain ⟨b', eb', hbl, hI⟩ := (HG.out.below HB2.out).pi k hlt
   obtain ⟨bh, oh, eh, ch⟩ := (HG.out.below HB2.out).h.at hkh
   rw [eb'] at ck
   rw [ep'] at b0
   rw [eh] at b3
   have HI : Hid (∀ wx, Below w2.heap.size w2 wx → b' < wx.heap.size ∧ InsAt wx b' 0 (x.pL k) (x.pH k)) := fun wx hb => ⟨Nat.lt_of_lt_of_le hbl hb.size, hI.below hb hbl⟩
   have HE : Hid (EvL w2 (x.hA k) (x.hL k) (x.hH k)) := (HG.out.below HB2.out).hi k hkh
   have HLk : Hid (x.hL k ≤ 1048576) := HL.out.h.2 k hkh
   generalize hR : resS (repO (x.pH k) (x.pL k) (x.hH k) (x.hL k)) = R
   generalize hT : (repO (x.pH k) (x.pL k) (x.hH k) (x.hL k)).isSome = T
   have HO : Hid (resS (repO (x.pH k) (x.pL k) (x.hH k) (x.hL k)) = R ∧ (repO (x.pH k) (x.pL k) (x.hH k) (x.hL k)).isSome = T) := ⟨hR, hT⟩
   have hRl := repO_len (x.pH k) (x.pL k) (x.hH k) (x.hL k)
   rw [hR] at hRl
   have HRL : Hid (R.rs.length ≤ 1048576 ∧ R.os.length ≤ 1048576) := hRl
   have d1 : w2.heap.size ≠ w.heap.size := by have := World.block_lt_of_cell? w2 _ b0; simp at this; omega
   have d2 : w2.heap.size ≠ bp' := by have := World.block_lt_of_cell? w2 _ ck; simp at this; omega
   have d3 : w2.heap.size ≠ bh := by have := World.block_lt_of_cell? w2 _ ch; simp at this; omega
   clear hI hR hT hRl ep' eb' eh ep eb hbl
   go_wp2_with fail
   go_cut [5, 6] from 55 to 68 (fun s t wx => ∃ M : Nat, s = .pointer (some ⟨M, 0, none⟩) ∧ t = .bool T ∧ Hid (Below w2.heap.size w2 wx ∧ Told wx w2.heap.size M R))
   case first =>
    go_region_held3 (fun w' => w'.cell? ⟨w.heap.size, 0, none⟩ = some (.slice (some ⟨bp', op', none⟩) x.pn x.pc) ∧ w'.cell? ⟨w.heap.size, 3, none⟩ = some (.slice (some ⟨bh, oh, none⟩) x.hn x.hc) ∧ w'.cell? ⟨bp', op' + k, none⟩ = some (.slice (some ⟨b', 0, none⟩) (x.pL k) (x.pC k)) ∧ w'.cell? ⟨bh, oh + k, none⟩ = some (.slice (x.hA k) (x.hL k) (x.hC k))) (go_keep)
     (first
      | (go_at_call 76; refine (specReplay_l b' (x.pL k) _ (x.hA k) (x.hL k) _ (x.pH k) (x.hH k) _ HM.out (HI.out _ (by go_grown)).1 (HI.out _ (by go_grown)).2 (HE.out.below (by go_grown)) HLk.out).mono ?_; rintro e w5 hd; rw [HO.out.1, HO.out.2] at hd; obtain ⟨v5, rfl, o5, b5⟩ := hd; obtain ⟨ra5, rc5, oa5, oc5, rfl, -, -⟩ := o5.read; have q5 : Below w2.heap.size w2 w5 := below_up (by go_grown) b5 (by simp); (try simp only [World.size_alloc, World.size_drew] at o5); have O5 : Hid (StOwn w5 _ (stV R.p ra5 R.rs.length rc5 oa5 R.os.length oc5 R.c) R.p R.rs R.os R.c) := o5; obtain ⟨hc5, hf5⟩ := bcell b5; have z5 := b5.size; (try simp only [World.size_alloc, World.size_drew, Nat.add_one_le_iff] at z5); have j5 : w2.heap.size ≤ w5.heap.size := q5.size; have Q5 : Hid (Below w2.heap.size w2 w5) := q5; have y0 := (q5.cell (p := ⟨w.heap.size, 0, none⟩) (World.block_lt_of_cell? w2 _ b0)).trans b0; have y3 := (q5.cell (p := ⟨w.heap.size, 3, none⟩) (World.block_lt_of_cell? w2 _ b3)).trans b3; have yk := (q5.cell (p := ⟨bp', op' + k, none⟩) (World.block_lt_of_cell? w2 _ ck)).trans ck; have yh := (q5.cell (p := ⟨bh, oh + k, none⟩) (World.block_lt_of_cell? w2 _ ch)).trans ch; clear o5 b5 q5))
    all_goals
     go_wp2_with fail
     go_meet
     case rel =>
      first
      | (refine ⟨w5.heap.size, by with_reducible rfl, rfl, ?_⟩
         exact ⟨Q5.out.trans ((below_alloc _ _).mono j5), Told.of_alloc O5.out (by omega) (by omega) _⟩)
      | (refine ⟨w2.heap.size, by with_reducible rfl, rfl, ?_⟩
         exact ⟨(((Q5.out.setCell (Nat.le_refl _) _).setCell (Nat.le_refl _) _).setCell (Nat.le_refl _) _).setCell (Nat.le_refl _) _, Told.of_put (z0 := .int .i64 0) (z1 := .slice none 0 0) (z2 := .slice none 0 0) (z3 := .int .i64 0) O5.out (by omega) (by omega) (by omega) ⟨by rw [hc5 _ _ (by simp)]; simp, by rw [hc5 _ _ (by simp)]; simp, by rw [hc5 _ _ (by simp)]; simp, by rw [hc5 _ _ (by simp)]; simp⟩⟩)
   case rest =>
    obtain ⟨M, rfl, rfl, HMt⟩ := hcut
    obtain ⟨ra, rc, oa, oc, TG⟩ := HMt.out.2.tl
    have HZ3 : Hid (Below wb.heap.size wb wc ∧ ∀ j, j < k → x.One j) := ⟨HZ2.out.1.trans (HMt.out.1.mono HZ2.out.1.size), HZ2.out.2⟩
    have HB3 : Hid (Below w.heap.size w wc) := HB2.out.trans (HMt.out.1.mono HB2.out.size)
    have HS3 : Hid (Sl wc ra R.rs ∧ Sl wc oa R.os) := TG.sl
    have HBX : Hid (BoxC wc M (.int .i64 R.p) (.slice ra R.rs.length rc) (.slice oa R.os.length oc) (.int .i64 R.c)) := TG.box
    clear b0 b1 b2 b3 ck ch d1 d2 d3 HI HE HLk HM HZ2 HB2 HMt TG
    rcases Bool.eq_false_or_eq_true T with rfl | rfl
    case inr =>
     have HN : Hid (x.y.okB = false) := Sy.okB_false fun h => by
      have h1 : repO (x.pH k) (x.pL k) (x.hH k) (x.hL k) = some (x.sS k) := (sy_one h hlt).st
      have h2 := HO.out.2
      rw [h1] at h2
      cases h2
     go_wp2_with fail
     go_quiet (fail)
     go_wp2
     go_ret
     rw [HN.out]
     exact ⟨rfl, below_drewN HB3.out _⟩
    case inl =>
     have HP : Hid (eqS R (x.sS k) = true ↔ x.StP k) := by
      show eqS R (x.sS k) = true ↔ x.StP k
      rw [eqS_iff]
      unfold SysIn.StP
      cases hr : repO (x.pH k) (x.pL k) (x.hH k) (x.hL k) with
      | none => have := HO.out.2; rw [hr] at this; cases this
      | some S0 =>
       have := HO.out.1
       rw [hr] at this
       rw [show S0 = R from this]
       exact ⟨fun e => by rw [e], fun e => Option.some.inj e⟩
     obtain ⟨k0, k1, k2, k3⟩ := HBX.out
     obtain ⟨-, x1, -, -⟩ := NB.out.below HZ3.out.1
     obtain ⟨bs, os, es, s0, s1, s2, s3⟩ := (HG.out.below HB3.out).s.at hks
     rw [es] at x1
     have HST : Hid (Sl wc (x.sQ k).ra (x.sQ k).rs ∧ Sl wc (x.sQ k).oa (x.sQ k).os) := (HG.out.below HB3.out).s.lst k hks
     have HSL : Hid ((x.sQ k).rs.length ≤ 1048576 ∧ (x.sQ k).os.length ≤ 1048576) := HL.out.s.2 k hks
     have k0' := cell_regrown k0
     have k1' := cell_regrown k1
     have k2' := cell_regrown k2
     have k3' := cell_regrown k3
     have x1' := cell_regrown x1
     have s0' := cell_regrown s0
     have s1' := cell_regrown s1
     have s2' := cell_regrown s2
     have s3' := cell_regrown s3
     clear es
     have HCs : Hid (∀ d os', Calls Tryz.prog 77 #[stV R.p ra R.rs.length rc oa R.os.length oc R.c, stV (x.sQ k).p (x.sQ k).ra (x.sQ k).rs.length (x.sQ k).rc (x.sQ k).oa (x.sQ k).os.length (x.sQ k).oc (x.sQ k).c] (grow (redrawn wc d) os') fun e w' => e = .returned (.bool (eqS R (x.sS k))) ∧ Below (grow (redrawn wc d) os').heap.size (grow (redrawn wc d) os') w') := fun d os' =>
      specSameState_any R (x.sS k) _ _ _ _ _ _ _ _ _ HRL.out.1 HRL.out.2 HSL.out.1 HSL.out.2 (HS3.out.1.below (below_regrown wc d os')) (HS3.out.2.below (below_regrown wc d os')) (HST.out.1.below (below_regrown wc d os')) (HST.out.2.below (below_regrown wc d os'))
     go_wp2_with fail
     refine wp_region_quiet_below (by kernel_rfl) (by kernel_rfl) ?_
     repeat (quiet_step (first | (go_at_call 77; exact Calls.regrown_of (HCs.out _ _))))
     refine wpQuiet_nil ?_
     intro _ hw'
     obtain ⟨⟨dq, osq⟩, hw''⟩ := hw'
     subst hw''
     have HZ4 : Hid (Below wb.heap.size wb (grow (redrawn wc dq) osq) ∧ ∀ j, j < k → x.One j) := ⟨HZ3.out.1.trans ((below_regrown wc dq osq).mono HZ3.out.1.size), HZ3.out.2⟩
     have HB4 : Hid (Below w.heap.size w (grow (redrawn wc dq) osq)) := HB3.out.trans ((below_regrown wc dq osq).mono HB3.out.size)
     generalize grow (redrawn wc dq) osq = w4 at *
     clear k0' k1' k2' k3' x1' s0' s1' s2' s3' k0 k1 k2 k3 x1 s0 s1 s2 s3 HCs HZ3 HB3 HS3 HBX HST HSL
     rcases Bool.eq_false_or_eq_true (eqS R (x.sS k)) with t | t
     case inr =>
      have HN : Hid (x.y.okB = false) := Sy.okB_false fun h => by
       have := HP.out.2 (sy_one h hlt).st
       rw [t] at this
       cases this
      rw [t]
      clear t
      go_wp2
      go_ret
      rw [HN.out]
      exact ⟨rfl, HB4.out⟩
     have HSt : Hid (x.StP k) := HP.out.1 t
     rw [t]
     clear t
     have hll : (x.hL k : Int) ≤ 1048576 := by have := HL.out.h.2 k hkh; omega
     go_wp2_with fail
     go_loopw [7] (fun i wr => ∃ j : Nat, j ≤ x.hL k ∧ i = .int .i64 j ∧ Hid (Below wb.heap.size wb wr ∧ ∀ i, i < j → (x.hH k i).q < (x.pn : Int))) (fun i _ => x.hL k - (intOf i).toNat)
     case atStart => exact ⟨0, Nat.zero_le _, rfl, HZ4.out.1, fun j hj => by omega⟩
     case round =>
      obtain ⟨j, hj, rfl, HY⟩ := hrel
      have HBj : Hid (Below w.heap.size w wr) := BA.out.trans (HY.out.1.mono BA.out.size)
      obtain ⟨-, -, -, b3⟩ := NB.out.below HY.out.1
      obtain ⟨bh, oh, eh, ch⟩ := (HG.out.below HBj.out).h.at hkh
      rw [eh] at b3
      clear eh
      by_cases hjl : j < x.hL k
      ·have hjl' : (j : Int) < (x.hL k : Int) := by omega
       obtain ⟨be, oe, ea, -, c0, c1, c2⟩ := ((HG.out.below HBj.out).hi k hkh).at hjl
       rw [ea] at ch
       by_cases hq : (x.hH k j).q < (x.pn : Int)
       ·have hq' : ¬ (x.pn : Int) ≤ (x.hH k j).q := by omega
        have HY' : Hid (Below wb.heap.size wb wr ∧ ∀ i, i < j + 1 → (x.hH k i).q < (x.pn : Int)) := ⟨HY.out.1, fun i hi => by
         by_cases e : i = j
         ·subst e
          exact hq
         ·exact HY.out.2 i (by omega)⟩
        clear HY ea
        go_wp2
        go_roundw
        case rel => exact ⟨j + 1, by omega, by go_num, HY'.out⟩
        case measure => simp [intOf]; omega
       ·have hq' : (x.pn : Int) ≤ (x.hH k j).q := by omega
        have HN : Hid (x.y.okB = false) := Sy.okB_false fun h => hq ((sy_one h hlt).pe j hjl)
        clear HY ea
        go_wp2
        go_ret
        rw [HN.out]
        exact ⟨rfl, HBj.out⟩
      ·have HZ5 : Hid (Below wb.heap.size wb wr ∧ ∀ p, p < k + 1 → x.One p) := ⟨HY.out.1, fun p hp => by
        by_cases e : p = k
        ·subst e
         exact ⟨TP.out, HSt.out, fun i hi => HY.out.2 i (by omega)⟩
        ·exact HZ4.out.2 p (by omega)⟩
       have hjl' : ¬ (j : Int) < (x.hL k : Int) := by omega
       clear HY
       go_wp2
       go_roundw
       case rel => exact ⟨k + 1, by omega, by go_num, HZ5.out⟩
       case measure => simp [intOf]; omega
  ·have HOne : Hid (∀ p, p < x.pn → x.One p) := fun p hp => HZ.out.2 p (by omega)
   have hkn : ¬ (k : Int) < (x.pn : Int) := by omega
   have HW0 : Hid (Below wb.heap.size wb wr) := HZ.out.1
   clear HZ b0 b1 b2 b3 hbw HBW
   go_wp2_with fail
   go_loopw [8] (fun i wr => ∃ a : Nat, a ≤ x.pn ∧ i = .int .i64 a ∧ Hid (Below wb.heap.size wb wr ∧ ∀ a', a' < a → ∀ b, b < x.pn → x.Two a' b)) (fun i _ => x.pn - (intOf i).toNat)
   case atStart => exact ⟨0, Nat.zero_le _, rfl, HW0.out, fun j hj => by omega⟩
   case round =>
    clear HW0
    obtain ⟨a, ha, rfl, HX⟩ := hrel
    by_cases hal : a < x.pn
    ·have hal' : (a : Int) < (x.pn : Int) := by omega
     go_wp2_with fail
     go_loopw [9] (fun i wr => ∃ b : Nat, b ≤ x.pn ∧ i = .int .i64 b ∧ Hid (Below wb.heap.size wb wr ∧ ∀ b', b' < b → x.Two a b')) (fun i _ => x.pn - (intOf i).toNat)
     case atStart => exact ⟨0, Nat.zero_le _, rfl, HX.out.1, fun j hj => by omega⟩
     case round =>
      obtain ⟨b, hb, rfl, HYb⟩ := hrel
      by_cases hbl : b < x.pn
      ·have hbl' : (b : Int) < (x.pn : Int) := by omega
       have hbh : b < x.hn := by have := HC.out; omega
       have hah : a < x.hn := by have := HC.out; omega
       have hbh' : (b : Int) < (x.hn : Int) := by omega
       have hah' : (a : Int) < (x.hn : Int) := by omega
       have HBb : Hid (Below w.heap.size w wr) := BA.out.trans (HYb.out.1.mono BA.out.size)
       have HLb : Hid (x.hL b ≤ 1048576 ∧ x.hL a ≤ 1048576) := ⟨HL.out.h.2 b hbh, HL.out.h.2 a hah⟩
       obtain ⟨-, -, -, b3⟩ := NB.out.below HYb.out.1
       obtain ⟨bh, oh, eh, ch⟩ := (HG.out.below HBb.out).h.at hbh
       rw [eh] at b3
       clear eh
       go_wp2_with fail
       refine (specValues_l (x.hA b) (x.hL b) _ (x.hH b) 3 a wr HLb.out.1 ((HG.out.below HBb.out).hi b hbh)).mono ?_
       rintro e w5 ⟨v5, rfl, o5, c5⟩
       obtain ⟨ta, tc, rfl, s5⟩ := o5.form
       have HY5 : Hid (Below wb.heap.size wb w5 ∧ ∀ b', b' < b → x.Two a b') := ⟨HYb.out.1.trans (c5.mono HYb.out.1.size), HYb.out.2⟩
       have HB5 : Hid (Below w.heap.size w w5) := HBb.out.trans (c5.mono HBb.out.size)
       have S5 : Hid (Sl w5 ta (valL (x.hH b) 3 a (x.hL b))) := s5
       clear o5 c5 s5 b3 ch HYb HBb
       obtain ⟨-, -, -, b3⟩ := NB.out.below HY5.out.1
       obtain ⟨bh', oh', eh', ch'⟩ := (HG.out.below HB5.out).h.at hah
       rw [eh'] at b3
       clear eh'
       go_wp2_with fail
       refine (specValues_l (x.hA a) (x.hL a) _ (x.hH a) 2 b w5 HLb.out.2 ((HG.out.below HB5.out).hi a hah)).mono ?_
       rintro e w6 ⟨v6, rfl, o6, c6⟩
       obtain ⟨sa, sc, rfl, s6⟩ := o6.form
       have HY6 : Hid (Below wb.heap.size wb w6 ∧ ∀ b', b' < b → x.Two a b') := ⟨HY5.out.1.trans (c6.mono HY5.out.1.size), HY5.out.2⟩
       have HB6 : Hid (Below w.heap.size w w6) := HB5.out.trans (c6.mono HB5.out.size)
       have S6 : Hid (Sl w6 ta (valL (x.hH b) 3 a (x.hL b)) ∧ Sl w6 sa (valL (x.hH a) 2 b (x.hL a))) := ⟨S5.out.below c6, s6⟩
       have hJl : a * x.pn + b < x.wn := by
        rw [HC.out.2.2.2]
        have : (a + 1) * x.pn ≤ x.pn * x.pn := Nat.mul_le_mul_right _ (by omega)
        rw [Nat.add_mul] at this
        omega
       have hJe : (a : Int) * (x.pn : Int) + (b : Int) = ((a * x.pn + b : Nat) : Int) := by rw [Int.natCast_add, Int.natCast_mul]
       have hm0 : 0 ≤ (a : Int) * (x.pn : Int) := Int.mul_nonneg (by omega) (by omega)
       have hm1 : (a : Int) * (x.pn : Int) ≤ 16 := by
        have := Int.mul_le_mul (show (a : Int) ≤ 4 by omega) hp4 (by omega) (by omega)
        omega
       have HT2 : Hid ((LWay (x.wH (a * x.pn + b)) (x.wL (a * x.pn + b)) (valL (x.hH a) 2 b (x.hL a)) (valL (x.hH b) 3 a (x.hL b)).length ∧ ∀ i, i < (valL (x.hH b) 3 a (x.hL b)).length → zi (valL (x.hH b) 3 a (x.hL b)) i = zi (valL (x.hH a) 2 b (x.hL a)) i) ↔ x.Two a b) := LWay.iff
       have htl : (valL (x.hH b) 3 a (x.hL b)).length ≤ 1048576 := Nat.le_trans (valL_le ..) HLb.out.1
       have hsl : (valL (x.hH a) 2 b (x.hL a)).length ≤ 1048576 := Nat.le_trans (valL_le ..) HLb.out.2
       have htl' : ((valL (x.hH b) 3 a (x.hL b)).length : Int) ≤ 1048576 := by omega
       generalize hJ : a * x.pn + b = J at *
       have hJl' : (J : Int) < (x.wn : Int) := by omega
       generalize valL (x.hH b) 3 a (x.hL b) = took at *
       generalize valL (x.hH a) 2 b (x.hL a) = sent at *
       have HIt : Hid (ItL w6 (x.wA J) (x.wL J) (x.wH J)) := (HG.out.below HB6.out).wi J hJl
       have HLJ : Hid (x.wL J ≤ 1048576) := HL.out.w.2 J hJl
       clear o6 c6 s6 b3 ch' HY5 HB5 S5 hJ
       obtain ⟨-, -, b2, -⟩ := NB.out.below HY6.out.1
       obtain ⟨bw, ow, ew, cw⟩ := (HG.out.below HB6.out).w.at hJl
       rw [ew] at b2
       clear ew
       go_wp2_with fail
       refine (l4Way_any (x.wA J) (x.wL J) _ (x.wH J) sa sc sent took.length w6 HLJ.out HIt.out hsl S6.out.2 htl).mono ?_
       rintro e w7 ⟨rfl, c7⟩
       have HY7 : Hid (Below wb.heap.size wb w7 ∧ ∀ b', b' < b → x.Two a b') := ⟨HY6.out.1.trans (c7.mono HY6.out.1.size), HY6.out.2⟩
       have HB7 : Hid (Below w.heap.size w w7) := HB6.out.trans (c7.mono HB6.out.size)
       have S7 : Hid (Sl w7 ta took ∧ Sl w7 sa sent) := ⟨S6.out.1.below c7, S6.out.2.below c7⟩
       clear c7 b2 cw HY6 HB6 S6 hm0 hm1 hJe
       by_cases hlw : LWay (x.wH J) (x.wL J) sent took.length
       case neg =>
        have HN : Hid (x.y.okB = false) := Sy.okB_false fun h => hlw (HT2.out.2 (sy_way h hal hbl)).1
        rw [pB_false hlw]
        clear hlw
        go_wp2
        go_ret
        rw [HN.out]
        exact ⟨rfl, HB7.out⟩
       have HLW : Hid (LWay (x.wH J) (x.wL J) sent took.length) := hlw
       rw [pB_true hlw]
       clear hlw
       go_wp2_with fail
       go_loopw [12] (fun i wr => ∃ j : Nat, j ≤ took.length ∧ i = .int .i64 j ∧ Hid (Below w7.heap.size w7 wr ∧ ∀ i, i < j → zi took i = zi sent i)) (fun i _ => took.length - (intOf i).toNat)
       case atStart => exact ⟨0, Nat.zero_le _, rfl, Below.refl _ _, fun j hj => by omega⟩
       case round =>
        obtain ⟨j, hj, rfl, HQ⟩ := hrel
        have HBq : Hid (Below w.heap.size w wr ∧ Below wb.heap.size wb wr) := ⟨HB7.out.trans (HQ.out.1.mono HB7.out.size), HY7.out.1.trans (HQ.out.1.mono HY7.out.1.size)⟩
        by_cases hjl : j < took.length
        ·have hjs : j < sent.length := by have := HLW.out.ln; omega
         obtain ⟨bq, oq, rfl, zq, cq⟩ := (S7.out.1.below HQ.out.1).at hjl
         obtain ⟨br, or', rfl, zr, cr⟩ := (S7.out.2.below HQ.out.1).at hjs
         have hjl' : (j : Int) < (took.length : Int) := by omega
         have hjs' : (j : Int) < (sent.length : Int) := by omega
         rcases Bool.eq_false_or_eq_true (zi took j != zi sent j) with t6 | t6
         ·have HN : Hid (x.y.okB = false) := Sy.okB_false fun h => by
           have := (HT2.out.2 (sy_way h hal hbl)).2 j hjl
           rw [this] at t6
           simp at t6
          clear HQ
          go_wp2_with fail
          go_quiet (fail)
          go_wp2
          go_ret
          rw [HN.out]
          exact ⟨rfl, below_drewN HBq.out.1 _⟩
         ·have HQ' : ∀ nq, Hid (Below w7.heap.size w7 (wr.drewN nq) ∧ ∀ i, i < j + 1 → zi took i = zi sent i) := fun nq => ⟨below_drewN HQ.out.1 _, fun i hi => by
           by_cases e : i = j
           ·subst e
            simpa using t6
           ·exact HQ.out.2 i (by omega)⟩
          have HQQ : Hid (∀ nq, Hid (Below w7.heap.size w7 (wr.drewN nq) ∧ ∀ i, i < j + 1 → zi took i = zi sent i)) := HQ'
          clear HQ HQ'
          go_wp2_with fail
          go_quiet (fail)
          go_wp2
          go_roundw
          case rel => exact ⟨j + 1, by omega, by go_num, HQQ.out _⟩
          case measure => simp [intOf]; omega
        ·have hjl' : ¬ (j : Int) < (took.length : Int) := by omega
         have HYn : Hid (Below wb.heap.size wb wr ∧ ∀ b', b' < b + 1 → x.Two a b') := ⟨HBq.out.2, fun b' hb' => by
          by_cases e : b' = b
          ·subst e
           exact HT2.out.1 ⟨HLW.out, fun i hi => HQ.out.2 i (by omega)⟩
          ·exact HY7.out.2 b' (by omega)⟩
         clear HQ
         go_wp2
         go_roundw
         case rel => exact ⟨b + 1, by omega, by go_num, HYn.out⟩
         case measure => simp [intOf]; omega
      ·have HX' : Hid (Below wb.heap.size wb wr ∧ ∀ a', a' < a + 1 → ∀ b, b < x.pn → x.Two a' b) := ⟨HYb.out.1, fun a' ha' b' hb' => by
        by_cases e : a' = a
        ·subst e
         exact HYb.out.2 b' (by omega)
        ·exact HX.out.2 a' (by omega) b' hb'⟩
       have hbl' : ¬ (b : Int) < (x.pn : Int) := by omega
       clear HYb HX
       go_wp2
       go_roundw
       case rel => exact ⟨a + 1, by omega, by go_num, HX'.out⟩
       case measure => simp [intOf]; omega
    ·have HTwo : Hid (∀ a, a < x.pn → ∀ b, b < x.pn → x.Two a b) := fun a' ha' b hb => HX.out.2 a' (by omega) b hb
     have hal' : ¬ (a : Int) < (x.pn : Int) := by omega
     have HBf : Hid (Below w.heap.size w wr) := BA.out.trans (HX.out.1.mono BA.out.size)
     obtain ⟨b0, b1, b2, b3⟩ := NB.out.below HX.out.1
     have HPe : Hid x.y.hs.Peers := fun p hp i hi => ⟨rp_peer (repO_some (HOne.out p hp).st).2.2 i hi, (HOne.out p hp).pe i hi⟩
     have e4 : x.hn = x.pn := HC.out.2.2.1
     have H2 : Hid (∀ i, i < x.y.hs.n → x.y.hs.l i ≤ 200) := fun p hp => (repO_some (HOne.out p hp).st).2.1
     have HCp : Hid (∀ i, i < x.y.hs.n → x.y.hs.l i ≤ x.hC i) := fun p hp => HCap.out p (by rw [e4]; exact hp)
     have HHE : Hid (HisE wr x.ha x.hA x.hC x.y.hs) := (HG.out.below HBf.out).his e4
     have HE4 : Hid (x.hn = x.pn) := e4
     clear HX e4
     rw [HE4.out] at b3
     go_wp2_with fail
     refine (l4Order_any x.pa x.pn x.pc x.sa x.sn x.sc x.wa x.wn x.wc x.ha x.hc x.hA x.hC x.y.hs wr HHE.out HCp.out HC.out.1.1 HC.out.1.2 HPe.out H2.out).mono ?_
     rintro e w9 ⟨rfl, b9⟩
     have HN : Hid (qB x.y.hs.Row = x.y.okB) := by
      show qB x.y.hs.Row = x.y.okB
      by_cases hr : x.y.hs.Row
      ·rw [qB_true hr, Sy.okB_true (sy_two HC.out HOne.out HTwo.out hr)]
      ·rw [qB_false hr, Sy.okB_false fun h => hr h.ro]
     have B9 : Hid (Below w.heap.size w w9) := HBf.out.trans (b9.mono HBf.out.size)
     rw [HN.out]
     clear b9 HN b0 b1 b2 b3
     go_wp2
     go_ret
     exact ⟨rfl, B9.out⟩
theorem IsSys.g2 {w : World} {lo hi : Nat} {x : SysIn} {v : Value} (o : IsSys w lo hi x v) : ∃ x' : SysIn, v = x'.v ∧ SysG w x' ∧ x'.y = x.y ∧ ∀ i, i < x'.hn → x'.hL i ≤ x'.hC i := by
 obtain ⟨D1, D2, D3, D4, b1, vs, b3, b4, h1, h2, h3, o⟩ := o
 obtain ⟨q1, q2, q3, q4, -⟩ := o.hi
 have hst : ∀ i, i < x.sn → ∃ t : Option Addr × Nat × Option Addr × Nat, vs i = stV (x.sS i).p t.1 (x.sS i).rs.length t.2.1 t.2.2.1 (x.sS i).os.length t.2.2.2 (x.sS i).c ∧ w.cell? ⟨D2, i * 4, none⟩ = some (.int .i64 (x.sS i).p) ∧ w.cell? ⟨D2, i * 4 + 1, none⟩ = some (.slice t.1 (x.sS i).rs.length t.2.1) ∧ w.cell? ⟨D2, i * 4 + 2, none⟩ = some (.slice t.2.2.1 (x.sS i).os.length t.2.2.2) ∧ w.cell? ⟨D2, i * 4 + 3, none⟩ = some (.int .i64 (x.sS i).c) := by
  intro i hi
  obtain ⟨ra, rc, oa, oc, e, c0, c1, c2, c3⟩ := o.ss.cel i hi
  exact ⟨(ra, rc, oa, oc), e, c0, c1, c2, c3⟩
 have inh : Inhabited (Option Addr × Nat × Option Addr × Nat) := ⟨(none, 0, none, 0)⟩
 obtain ⟨t, ht⟩ := Go.Deep.choose_lt hst
 refine ⟨⟨some ⟨D1, 0, none⟩, x.pn, x.pn, fun i => some ⟨b1 i, 0, none⟩, x.pL, x.pL, x.pH, some ⟨D2, 0, none⟩, x.sn, x.sn, fun i => ⟨(x.sS i).p, (t i).1, (t i).2.1, (x.sS i).rs, (t i).2.2.1, (t i).2.2.2, (x.sS i).os, (x.sS i).c⟩, some ⟨D3, 0, none⟩, x.wn, x.wn, fun i => some ⟨b3 i, 0, none⟩, x.wL, x.wL, x.wH, some ⟨D4, 0, none⟩, x.hn, x.hn, fun i => some ⟨b4 i, 0, none⟩, x.hL, x.hL, x.hH⟩, o.val, ?_, rfl, fun i _ => Nat.le_refl _⟩
 have l1 := o.pp.lt
 have l2 := o.ss.lt
 have l3 := o.ww.lt
 have l4 := o.hh.lt
 refine ⟨.inr ⟨D1, 0, rfl, by omega, fun i hi => ?_⟩, fun i hi => ⟨b1 i, rfl, Nat.lt_of_lt_of_le (o.pp.bd i hi).2 o.pp.le, o.pp.row i hi⟩, ⟨.inr ⟨D2, 0, rfl, by omega, fun i hi => ?_⟩, fun i hi => ?_⟩, .inr ⟨D3, 0, rfl, by omega, fun i hi => ?_⟩, fun i hi => .inr ⟨b3 i, 0, rfl, Nat.lt_of_lt_of_le (o.ww.bd i hi).2 o.ww.le, o.ww.row i hi⟩, .inr ⟨D4, 0, rfl, by omega, fun i hi => ?_⟩, fun i hi => .inr ⟨b4 i, 0, rfl, Nat.lt_of_lt_of_le (o.hh.bd i hi).2 o.hh.le, o.hh.row i hi⟩⟩
 ·have := o.pp.cel i hi
  simpa using this
 ·have := (ht i hi).2
  simpa using this
 ·have h4 := o.ss.own i hi
  rw [(ht i hi).1] at h4
  exact ⟨h4.parts.1.slOf, h4.parts.2.1.slOf⟩
 ·have := o.ww.cel i hi
  simpa using this
 ·have := o.hh.cel i hi
  simpa using this
theorem SysIn.len_of {x x' : SysIn} (hs : x.size ≤ 1048576) (hy : x'.y = x.y) : x'.Len := by
 have l := SysIn.lens hs
 have e1 : x'.pn = x.pn := congrArg Sy.pn hy
 have e2 : x'.pL = x.pL := congrArg Sy.pL hy
 have e3 : x'.sn = x.sn := congrArg Sy.sn hy
 have e4 : x'.sS = x.sS := congrArg Sy.sS hy
 have e5 : x'.wn = x.wn := congrArg Sy.wn hy
 have e6 : x'.wL = x.wL := congrArg Sy.wL hy
 have e7 : x'.hn = x.hn := congrArg Sy.hn hy
 have e8 : x'.hL = x.hL := congrArg Sy.hL hy
 refine ⟨⟨by omega, fun i hi => ?_⟩, ⟨by omega, fun i hi => ?_⟩, ⟨by omega, fun i hi => ?_⟩, ⟨by omega, fun i hi => ?_⟩⟩
 ·rw [e2]
  exact sum_le l.1.2 i (by omega)
 ·have h1 := SysIn.lensS hs i (by omega)
  have h2 : x'.sS i = x.sS i := by rw [e4]
  have h3 : (x'.sQ i).rs = (x.sQ i).rs := congrArg S4.rs h2
  have h4 : (x'.sQ i).os = (x.sQ i).os := congrArg S4.os h2
  rw [h3, h4]
  exact h1
 ·rw [e6]
  exact sum_le l.2.2.1.2 i (by omega)
 ·rw [e8]
  exact sum_le l.2.2.2.2 i (by omega)
structure Px (W : World) (x : SysIn) (w : World) : Prop where
 be : Below W.heap.size W w
 bx : BoxC w W.heap.size (.slice x.pa x.pn x.pc) (.slice x.sa x.sn x.sc) (.slice x.wa x.wn x.wc) (.slice x.ha x.hn x.hc)
 lt : W.heap.size < w.heap.size
theorem Px.below {W : World} {x : SysIn} {w w' : World} (h : Px W x w) (hb : Below w.heap.size w w') : Px W x w' := ⟨h.be.trans (hb.mono (Nat.le_of_lt h.lt)), h.bx.below hb, Nat.lt_of_lt_of_le h.lt hb.size⟩
def Sy.nil (y : Sy) : Sy := { y with pn := 0, sn := 0, wn := 0, hn := 0 }
theorem Sy.nil_sm (y : Sy) : y.nil.Sm := ⟨⟨by simp [Sy.nil], by simp [Sy.nil], by simp [Sy.nil], by simp [Sy.nil]⟩, fun i hi => by simp [Sy.nil] at hi, fun i hi => by simp [Sy.nil] at hi, fun i hi => by simp [Sy.nil] at hi, fun i hi => by simp [Sy.nil] at hi⟩
end Go.Proofs.YtfdanemmefckpaaGreatDoor
