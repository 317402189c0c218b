/- Marks on items. -/
import Derived.Test.YtcplnkhdclcgfaaGreatDoorSd0
import Derived.Test.YtcplnkhdclcgfaaGreatDoorSd40
import Derived.Test.YtcplnkhdclcgfaaGreatDoorSd42
import Derived.Test.YtcplnkhdclcgfaaGreatDoorSd23
import Derived.Test.YtcplnkhdclcgfaaGreatDoorSd34
import Derived.Test.YtcplnkhdclcgfaaGreatDoorSd43
import Derived.Test.YtcplnkhdclcgfaaGreatDoorSd33
import Derived.Test.YtcplnkhdclcgfaaGreatDoorSd30
import Derived.Test.YtcplnkhdclcgfaaGreatDoorSd44
import Derived.BigQuiet
import Derived.Deep.RegionLaw
import Derived.Laws.IdiomCopy
import Derived.Test.YtcplnkhdclcgfaaGreatDoorSd11
import Derived.Test.YtcplnkhdclcgfaaGreatDoorSd13
import Derived.Lib.QuietBelow
namespace Go.Proofs.YtcplnkhdclcgfaaGreatDoor
set_option maxRecDepth 100000
set_option maxHeartbeats 8000000
open Go.ChangeShapes Go.WideShapes Go.ChangeAt Go.RowKit Go.Deep
noncomputable def nwN (n : Nat) (L : Nat -> Nat) (H : Nat -> Nat -> I5) : Nat := if snB n L H = true then n else 0
def NwR (w : World) (n : Nat) (L : Nat -> Nat) (H : Nat -> Nat -> I5) (e : Ending) (w' : World) : Prop := ∃ pa pc sa sc wa wc ha hc, e = .returned (.tuple #[sysV pa (nwN n L H) pc sa (nwN n L H) sc wa (nwN n L H * nwN n L H) wc ha (nwN n L H) hc, .bool (snB n L H)]) /\ Own1 w' w.heap.size w'.heap.size (nwN n L H) L H (.slice pa (nwN n L H) pc) (.slice sa (nwN n L H) sc) (.slice wa (nwN n L H * nwN n L H) wc) (.slice ha (nwN n L H) hc) /\ Below w.heap.size w w'
theorem NwR.yes {w w' : World} {n : Nat} {L : Nat -> Nat} {H : Nat -> Nat -> I5} {pa sa wa ha : Option Addr} {pc sc wc hc : Nat} (h : snB n L H = true) (o : Own1 w' w.heap.size w'.heap.size n L H (.slice pa n pc) (.slice sa n sc) (.slice wa (n * n) wc) (.slice ha n hc)) (b : Below w.heap.size w w') : NwR w n L H (.returned (.tuple #[sysV pa n pc sa n sc wa (n * n) wc ha n hc, .bool true])) w' := by
 have e : nwN n L H = n := if_pos h
 refine ⟨pa, pc, sa, sc, wa, wc, ha, hc, ?_, ?_, b⟩
 ·rw [e, h]
 ·rw [e]
  exact o
theorem NwR.no {w w' : World} {n : Nat} {L : Nat -> Nat} {H : Nat -> Nat -> I5} (h : snB n L H = false) (b : Below w.heap.size w w') : NwR w n L H (.returned (.tuple #[sysV none 0 0 none 0 0 none 0 0 none 0 0, .bool false])) w' := by
 have e : nwN n L H = 0 := if_neg (by rw [h]; decide)
 refine ⟨none, 0, none, 0, none, 0, none, 0, ?_, ?_, b⟩
 ·rw [e, h]
 ·rw [e]
  exact Own1.zero _ _ _ _ _
theorem specSysNew_any (pa : Option Addr) (n pc : Nat) (A : Nat -> Option Addr) (L C : Nat -> Nat) (H : Nat -> Nat -> I5) (w : World) (hn : n <= 1048576) (hL : ∀ i, i < n -> L i <= 1048576) (hr : RowS w pa n fun i => .slice (A i) (L i) (C i)) (hI : ∀ i, i < n -> Src w (A i) (fI (H i) (L i))) :
  Calls Tryz.prog 244 #[.slice pa n pc] w (NwR w n L H) := by
 have hn' : (n : Int) <= 1048576 := by omega
 have HP : Hid (∀ wx, Below w.heap.size w wx -> Calls Tryz.prog 120 #[.slice pa n pc] wx fun e w' => ∃ v u, e = .returned v /\ LI true w' (fun k => wx.heap.size <= k /\ k < w'.heap.size) v n u L H /\ Below wx.heap.size wx w') := fun wx hb => l4Ins_any pa n pc A L C H wx hn hL (hr.below hb) fun i hi => (hI i hi).below hb
 have HL : Hid (∀ i, i < n -> L i <= 1048576) := hL
 have BW : Hid (Below w.heap.size w (w.alloc (zQ4))) := zQ _ _
 have RB : Hid (BoxC (w.alloc (zQ4)) w.heap.size (.slice none 0 0) (.slice none 0 0) (.slice none 0 0) (.slice none 0 0) /\ ∀ j, (w.alloc (zQ4)).frozen? ⟨w.heap.size, j, none⟩ = false) := ⟨BoxC.new w _ _ _ _ _, fun j => yB _ _ _ _ rfl⟩
 have hM : w.heap.size <= w.heap.size := Nat.le_refl _
 clear hL hr hI
 by_cases h4 : n <= 4
 case neg =>
  have h4' : (4 : Int) < (n : Int) := by omega
  have HV : Hid (snB n L H = false) := by
   show snB n L H = false
   rw [snB, decide_eq_false h4]
   rfl
  go_enter Tryz.func244, Tryz.ntmps244
  go_upto_region 1 with fail
  generalize w.alloc (zQ4) = W1 at *
  obtain ⟨⟨r0, r1, r2, r3⟩, rf⟩ := RB.out
  go_wp2
  exact bodyPost_ret (v := .tuple #[sysV none 0 0 none 0 0 none 0 0 none 0 0, .bool false]) (by simp [results, Tryz.results244, go_sem, r0, r1, r2, r3]) rfl (NwR.no HV.out ((((BW.out.setCell hM _).setCell hM _).setCell hM _).setCell hM _))
 have h4' : ¬ (4 : Int) < (n : Int) := by omega
 obtain ⟨NN, hNN⟩ : ∃ NN, NN = n * n := ⟨_, rfl⟩
 have HNN : Hid (NN = n * n) := hNN
 have hm0 : (n : Int) * (n : Int) = (NN : Int) := by rw [hNN]; simp
 have h16 : NN <= 16 := by rw [hNN]; exact zP (Nat.mul_le_mul h4 h4) (by omega)
 have h16' : (NN : Int) <= 16 := by omega
 have hn4 : (n : Int) <= 4 := by omega
 clear hNN
 go_enter Tryz.func244, Tryz.ntmps244
 go_upto_region 4 with fail
 have z1 : w.heap.size < (w.alloc (zQ4)).heap.size := by simp
 generalize w.alloc (zQ4) = W1 at *
 have F0 : Hid (NwF W1 n L H false false false false undef undef undef undef W1.drew) := ⟨(Below.refl _ _).drew, fun _ => 0, (fun e => by cases e), (fun e => by cases e), (fun e => by cases e), (fun e => by cases e)⟩
 refine wp_region_G (fun _ => True) (fun _ => false) (by kernel_rfl) ?_
 refine wpG_take 0 rfl trivial ?_
 apply Exists.intro
 refine ⟨fun wq hSw => ?_, ?_⟩
 ·(try dsimp only at hSw)
  go_simp
  try with_reducible rfl
 (try simp only [Act.put, zD, zE, zF])
 refine wpG_take 2 rfl trivial ?_
 apply Exists.intro
 refine ⟨fun wq hSw => ?_, ?_⟩
 ·(try dsimp only at hSw)
  go_simp
  try with_reducible rfl
 (try simp only [Act.put, zD, zE, zF])
 refine wpG_take 3 rfl trivial ?_
 apply Exists.intro
 refine ⟨fun wq hSw => ?_, ?_⟩
 ·(try dsimp only at hSw)
  go_simp
  try with_reducible rfl
 (try simp only [Act.put, zD, zE, zF])
 refine wpG_take 4 rfl trivial ⟨.int .i64 (NN : Int), fun wq _ => ?_, ?_⟩
 ·go_simp
  rw [IntKind.wrap_i64]
  omega
 (try simp only [Act.put, zD, zE, zF])
 refine wpG_take 6 rfl trivial ?_
 apply Exists.intro
 refine ⟨fun wq hSw => ?_, ?_⟩
 ·(try dsimp only at hSw)
  go_simp
  try with_reducible rfl
 (try simp only [Act.put, zD, zE, zF])
 refine wpG_cast 6 #[true, false, true, true, true, false, true, false, false, false, false] (by kernel_rfl) (by kernel_rfl) ?_
 refine wpG_four (fun a b c d e => #[true, a, true, true, true, b, true, c, e, d, false]) 1 5 7 9 8 (fun a b c d x wq => ∃ v1 v2 v3 v4, x = ⟨#[.slice pa n pc, undef, .pointer (some ⟨w.heap.size, 0, none⟩), .bool false, .int .i64 n, v4, undef, .slice pa n pc, .int .i64 n, .int .i64 n, .bool false, undef, .slice pa n pc, v1, .int .i64 n, .int .i64 n, .int .i64 NN, v2, .int .i64 n, v3, undef, undef, undef, undef, undef, undef, undef, undef, undef, undef, undef, undef, undef, undef, undef, undef, undef], []⟩ /\ NwF W1 n L H a b c d v1 v2 v3 v4 wq) (fun d x wq => ∃ a1 c1 a2 c2 a3 c3 v4, x = ⟨#[.slice pa n pc, undef, .pointer (some ⟨w.heap.size, 0, none⟩), .bool false, .int .i64 n, v4, undef, .slice pa n pc, .int .i64 n, .int .i64 n, .bool false, undef, .slice pa n pc, .slice a1 n c1, .int .i64 n, .int .i64 n, .int .i64 NN, .slice a2 (n * n) c2, .int .i64 n, .slice a3 n c3, .agg #[.slice a1 n c1, .slice none 0 0, .slice a2 (n * n) c2, .slice a3 n c3], undef, undef, undef, undef, undef, undef, undef, undef, undef, undef, undef, undef, undef, undef, undef, undef], []⟩ /\ NwF W1 n L H true true true d (.slice a1 n c1) (.slice a2 (n * n) c2) (.slice a3 n c3) v4 wq) (f0 := 1) ?_ (fun _ _ _ => rfl) (fun _ _ _ => rfl) (fun _ _ _ => rfl) (fun _ _ _ _ => rfl) (fun _ => rfl) rfl (by kernel_rfl) (fun d => by cases d <;> kernel_rfl) (fun d => by cases d <;> kernel_rfl) (by kernel_rfl) (fun _ _ _ _ h => h) ?_ ?_ ?_ ?_ ?_ ?_ ?_ 4 false false false false _ _ rfl ⟨_, _, _, _, rfl, F0.out⟩
 ·intro a b c d h
  cases a <;> cases b <;> cases c <;> cases d <;> first | exact absurd h (by decide) | kernel_rfl
 ·rintro b c d x wq ⟨v1, v2, v3, v4, rfl, F⟩
  refine wpOp_step rfl fun K hK => ?_
  refine stepR_call rfl 120 _ _ rfl #[.slice pa n pc] (by simp [Act.eval]) (yA Tryz.func120 (by kernel_rfl) rfl) (HP.out wq (BW.out.trans (F.be.mono BW.out.size))) ?_
  rintro e w5 ⟨v5, u5, rfl, o5, d5⟩
  exact ⟨_, rfl, hK _ _ ⟨fun _ _ => trivial, v5, v2, v3, v4, rfl, F.one o5 d5⟩⟩
 ·rintro a c d x wq ⟨v1, v2, v3, v4, rfl, F⟩
  have hmk := run_make_nils kndTT nilItem NN (by omega) wq
  refine wpOp_step rfl fun K hK => ?_
  go_simp
  refine hK _ _ ⟨fun _ _ => trivial, v1, .slice (some ⟨wq.heap.size, 0, none⟩) NN NN, v3, v4, rfl, ?_⟩
  rw [HNN.out]
  exact F.two (by rw [<- HNN.out]; omega)
 ·rintro a b d x wq ⟨v1, v2, v3, v4, rfl, F⟩
  have hmk := run_make_nils kndEE nilEvent n (by omega) wq
  refine wpOp_step rfl fun K hK => ?_
  go_simp
  exact hK _ _ ⟨fun _ _ => trivial, v1, v2, .slice (some ⟨wq.heap.size, 0, none⟩) n n, v4, rfl, F.three (by omega)⟩
 ·rintro a b c x wq ⟨v1, v2, v3, v4, rfl, F⟩
  refine wpOp_step rfl fun K hK => ?_
  go_simp
  exact hK _ _ ⟨fun _ _ => trivial, v1, v2, v3, .pointer (some ⟨wq.heap.size, 0, none⟩), rfl, F.four⟩
 ·rintro d x wq ⟨v1, v2, v3, v4, rfl, F⟩
  obtain ⟨k, h1, h2, h3, -⟩ := F.ow
  obtain ⟨u, o1⟩ := h1 rfl
  obtain ⟨a1, c1, rfl⟩ := zU o1.row
  obtain ⟨a2, c2, rfl⟩ := zU (h2 rfl).row
  obtain ⟨a3, c3, rfl⟩ := zU (h3 rfl).row
  refine ⟨rfl, .agg #[.slice a1 n c1, .slice none 0 0, .slice a2 (n * n) c2, .slice a3 n c3], fun wz => ?_, a1, c1, a2, c2, a3, c3, v4, rfl, F⟩
  go_simp
 ·rintro x wq ⟨a1, c1, a2, c2, a3, c3, v4, rfl, F⟩
  refine wpOp_step rfl fun K hK => ?_
  go_simp
  exact hK _ _ ⟨fun _ _ => trivial, a1, c1, a2, c2, a3, c3, .pointer (some ⟨wq.heap.size, 0, none⟩), rfl, F.four⟩
 rintro x w4 ⟨a1, c1, a2, c2, a3, c3, v4, rfl, F⟩
 clear F0
 obtain ⟨N, c, up, us, rfl, nl, ⟨g0, g1, g2, g3⟩, gf, ns⟩ := NwS.start F rfl (.inr trivial)
 refine wpG_one 10 rfl (by kernel_rfl) (fun K hK => ?_)
 go_simp
 refine hK.out _ _ (fun _ => trivial) ?_
 clear hK K
 (try simp only [zD, zE, zF])
 refine wpG_done (by kernel_rfl) ?_ _
 have NS0 : Hid (NwS W1 N n L H true 0 ((((w4.setCell ⟨N, 0, none⟩ (.slice a1 n c1)).setCell ⟨N, 1, none⟩ (.slice none 0 0)).setCell ⟨N, 2, none⟩ (.slice a2 (n * n) c2)).setCell ⟨N, 3, none⟩ (.slice a3 n c3)) (.slice a1 n c1) (.slice none 0 0) (.slice a2 (n * n) c2) (.slice a3 n c3) c up us) := ns
 clear ns g0 g1 g2 g3 gf nl F
 go_upto_region 5 with fail
 generalize ((((w4.setCell ⟨N, 0, none⟩ (.slice a1 n c1)).setCell ⟨N, 1, none⟩ (.slice none 0 0)).setCell ⟨N, 2, none⟩ (.slice a2 (n * n) c2)).setCell ⟨N, 3, none⟩ (.slice a3 n c3)) = W5 at *
 go_wp2_with fail
 go_loopw [6] (fun i wr => ∃ k : Nat, k <= n /\ i = .int .i64 k /\ Hid (∃ vs c up us, NwS W1 N n L H true k wr (.slice a1 n c1) vs (.slice a2 (n * n) c2) (.slice a3 n c3) c up us)) (fun i _ => n - (intOf i).toNat)
 case atStart => exact ⟨0, Nat.zero_le _, rfl, _, _, _, _, NS0.out⟩
 case round =>
  clear NS0 c up us
  obtain ⟨k, hk, rfl, HK⟩ := hrel
  obtain ⟨vs, c, up, us, ns⟩ := HK.out
  have NS : Hid (NwS W1 N n L H true k wr (.slice a1 n c1) vs (.slice a2 (n * n) c2) (.slice a3 n c3) c up us) := ns
  clear ns HK
  by_cases hlt : k < n
  ·have hlt' : (k : Int) < (n : Int) := by omega
   go_wp2_with fail
   obtain ⟨x0, x1, x2, x3⟩ := NS.out.bx
   have xf := NS.out.fr
   obtain ⟨sa, sc, rfl⟩ := zU NS.out.s.row
   have nl := NS.out.lt
   refine wp_region_G (fun w' => w'.cell? ⟨N, 1, none⟩ = some (.slice sa k sc)) (fun i => i == 6) (by kernel_rfl) ?_
   have hHeld : (fun w' : World => w'.cell? ⟨N, 1, none⟩ = some (.slice sa k sc)) wr.drew := x1
   refine wpGT_of [0, 1] ?_
   iterate 2 (refine wpGT_take rfl hHeld ?_; apply Exists.intro; refine ⟨fun wq hSw => ?_, ?_⟩; (· ((try dsimp only at hSw); go_simp; try with_reducible rfl)); (try simp only [Act.put, zD, zE, zF]))
   refine wpGT_nil ?_
   refine wpG_one 2 rfl (by kernel_rfl) (fun K hK => ?_)
   refine stepR_call rfl 237 _ _ rfl #[] (by simp) (yA Tryz.func237 (by kernel_rfl) rfl) (specStateNew_any wr.drew) ?_
   rintro e w5 ⟨u5, rfl, o5, d5⟩
   refine ⟨_, rfl, ?_⟩
   obtain ⟨ra5, rc5, oa5, oc5, rfl, -, -⟩ := o5.read
   have q5 : Below wr.heap.size wr w5 := (Below.refl wr.heap.size wr).drew.trans d5
   have hc5 := (bcell q5).1
   refine hK.out _ _ (fun _ => (hc5 _ _ nl).trans x1) ?_
   clear hK K
   (try simp only [Act.put, zD, zE, zF])
   refine wpG_one 3 rfl (by kernel_rfl) (fun K hK => ?_)
   go_simp
   have ba := zQ w5 (oQ2 0 ra5 4 rc5 oa5 0 oc5 0)
   refine hK.out _ _ (fun _ => ((ba.cell (p := ⟨N, 1, none⟩) (zL nl q5.size)).trans ((hc5 _ _ nl).trans x1))) ?_
   clear ba
   clear hK K
   (try simp only [Act.put, zD, zE, zF])
   refine wpG_one 4 rfl (by kernel_rfl) (fun K hK => ?_)
   refine stepR_append_val kndS w5 rfl rfl _ _ rfl 0 (.slice sa k sc) k _ rfl (NS.out.s.below q5).row #[.int .i64 0, .slice ra5 4 rc5, .slice oa5 0 oc5, .int .i64 0] rfl rfl (by intro u hu; simp at hu; rcases hu with rfl | rfl | rfl | rfl <;> rfl) (by omega) (Nat.zero_le _) ?_
   intro v6 w6 o6 g6 q6 n6
   obtain ⟨a6, c6, rfl⟩ := zU o6
   have gN : w6.heap[N]? = wr.heap[N]? := (g6.block N (Nat.lt_of_lt_of_le nl q5.size) fun e => by
    have := (NS.out.s.rb N e.symm).2
    rw [NS.out.cN] at this
    cases this).trans (q5.block N nl)
   have y1 := (zH gN).trans x1
   have yf : ∀ j, w6.frozen? ⟨N, j, none⟩ = false := fun j => (zI gN).trans (xf j)
   have NS6 : Hid (NwS W1 N n L H true (k + 1) (w6.setCell ⟨N, 1, none⟩ (.slice a6 (k + 1) c6)) (.slice a1 n c1) (.slice a6 (k + 1) c6) (.slice a2 (n * n) c2) (.slice a3 n c3) (rcol c wr.heap.size 2) up (fun j => if j = k then stV 0 ra5 4 rc5 oa5 0 oc5 0 else us j)) := NS.out.push q5 (o5.mono (by simp)) o6 g6 q6
   refine hK.out _ _ (fun _ => y1) ?_
   clear hHeld
   have hHeld : (fun w' : World => w'.cell? ⟨N, 1, none⟩ = some (.slice sa k sc)) w6 := y1
   clear o6 g6 q6 n6 gN
   clear hK K
   (try simp only [Act.put, zD, zE, zF])
   refine wpG_take 5 rfl hHeld ?_
   apply Exists.intro
   refine ⟨fun wq hSw => ?_, ?_⟩
   ·(try dsimp only at hSw)
    go_simp
    try with_reducible rfl
   (try simp only [Act.put, zD, zE, zF])
   refine wpG_one 6 rfl (by kernel_rfl) (fun K hK => ?_)
   have y2 := yf 1
   go_simp
   refine hK.out _ _ (fun h => ?_) ?_
   ·exact absurd h (by decide)
   clear hK K
   (try simp only [Act.put, zD, zE, zF])
   refine wpG_done (by kernel_rfl) ?_ _
   clear x0 x1 x2 x3 xf y1 y2 yf hHeld o5 d5 q5 hc5
   go_wp2
   go_roundw
   case rel => exact ⟨k + 1, by omega, by go_num, _, _, _, _, NS6.out⟩
   case measure => simp [intOf]; omega
  ·have hkn : k = n := by omega
   have NS' := NS.out
   rw [hkn] at NS'
   obtain ⟨sa, sc, rfl⟩ := zU NS'.s.row
   have NE : Hid (NwS W1 N n L H true n wr (.slice a1 n c1) (.slice sa n sc) (.slice a2 (n * n) c2) (.slice a3 n c3) c up us) := NS'
   clear NS NS' hkn
   have HG : Hid (∀ wx, Below wr.heap.size wr wx -> Calls Tryz.prog 44 #[sysV a1 n c1 sa n sc a2 (n * n) c2 a3 n c3] wx fun e w' => e = .returned (.bool (nwY n L H).okB) /\ Below wx.heap.size wx w') := fun wx hb => by
    have h := NE.out.below hb
    have hp := h.p rfl
    exact specSysOk_any (nwX a1 n c1 (fun i => adOf (up i)) L (fun i => cpOf (up i)) H (.slice sa n sc) (.slice a2 (n * n) c2) (.slice a3 n c3) us) wx (h.g (rowS_of hp) fun i hi => by
     obtain ⟨b, cap, eu, hb', hI, -⟩ := atI (hp.own i hi) (hp.nn nzI i hi)
     exact ⟨b, by rw [eu]; rfl, hb', hI⟩) (nwX_len h4 HL.out) (fun i _ => Nat.le_refl _)
   obtain ⟨x0, x1, x2, x3⟩ := NE.out.bx
   go_wp2_with fail
   refine (HG.out wr (Below.refl _ _)).mono ?_
   rintro e w6 ⟨rfl, q6⟩
   have NF : Hid (NwS W1 N n L H true n w6 (.slice a1 n c1) (.slice sa n sc) (.slice a2 (n * n) c2) (.slice a3 n c3) c up us) := NE.out.below q6
   have hbe := NF.out.be
   have R6 : Hid (BoxC w6 w.heap.size (.slice none 0 0) (.slice none 0 0) (.slice none 0 0) (.slice none 0 0) /\ ∀ j, w6.frozen? ⟨w.heap.size, j, none⟩ = false) := ⟨RB.out.1.below hbe, fun j => ((bcell hbe).2 _ j z1).trans (RB.out.2 j)⟩
   have B6 : Hid (Below w.heap.size w w6) := BW.out.trans (hbe.mono BW.out.size)
   clear q6 NE HG x0 x1 x2 x3 hbe
   obtain ⟨⟨r0, r1, r2, r3⟩, rf⟩ := R6.out
   rcases zK (nwY n L H).okB with t | t
   case inr =>
    have HV : Hid (snB n L H = false) := by
     show snB n L H = false
     rw [snB, t, Bool.and_false]
    rw [t]
    clear t
    go_wp2
    exact bodyPost_ret (v := .tuple #[sysV none 0 0 none 0 0 none 0 0 none 0 0, .bool false]) (by simp [results, Tryz.results244, go_sem, r0, r1, r2, r3]) rfl (NwR.no HV.out ((((B6.out.setCell hM _).setCell hM _).setCell hM _).setCell hM _))
   have HV : Hid (snB n L H = true) := by
    show snB n L H = true
    rw [snB, t, decide_eq_true h4]
    rfl
   rw [t]
   clear t
   obtain ⟨x0, x1, x2, x3⟩ := NF.out.bx
   go_wp2
   exact bodyPost_ret (v := .tuple #[sysV a1 n c1 sa n sc a2 (n * n) c2 a3 n c3, .bool true]) (by simp [results, Tryz.results244, go_sem, r0, r1, r2, r3]) rfl (NwR.yes HV.out (((NF.out.own1 rfl).out4 z1 _ _ _ _).base (Nat.le_of_lt z1) (by simp)) ((((B6.out.setCell hM _).setCell hM _).setCell hM _).setCell hM _))
structure Sy.Sm (y : Sy) : Prop where
 n : y.pn <= 16 /\ y.sn <= 16 /\ y.wn <= 16 /\ y.hn <= 16
 p : ∀ i, i < y.pn -> y.pL i <= 1000
 s : ∀ i, i < y.sn -> (y.sS i).rs.length <= 1000 /\ (y.sS i).os.length <= 1000
 w : ∀ i, i < y.wn -> y.wL i <= 1000
 h : ∀ i, i < y.hn -> y.hL i <= 1000
theorem okS_len {n : Nat} {S : S4} (h : OkS n S) : S.rs.length <= 60 /\ S.os.length <= 60 := by
 obtain ⟨⟨r0, r1, r2, r3, e, -⟩, -, h60, -⟩ := st_parts h
 exact ⟨by rw [e]; simp, h60⟩
theorem Sy.Ok.bds {y : Sy} (h : y.Ok) : (∀ i, i < y.pn -> y.pL i <= 30) /\ (∀ i, i < y.sn -> OkS (y.pL i) (y.sS i)) /\ (∀ i, i < y.wn -> y.wL i <= 12) /\ (∀ i, i < y.hn -> y.hL i <= 200) := by
 obtain ⟨⟨h1, h4⟩, hs, hh, hw⟩ := h.cn
 refine ⟨fun i hi => ?_, fun i hi => h.st (by omega), fun i hi => ?_, fun i hi => h.le200 (by omega)⟩
 ·have h1 := h.four hi
  simp only [progOkB, Bool.and_eq_true, inB, decide_eq_true_eq] at h1
  have := h1.2.1
  omega
 ·rw [hw] at hi
  have ha : i / y.pn < y.pn := Nat.div_lt_of_lt_mul hi
  have hb : i % y.pn < y.pn := Nat.mod_lt _ (by omega)
  have e : i / y.pn * y.pn + i % y.pn = i := by rw [Nat.mul_comm]; exact Nat.div_add_mod i y.pn
  have := h.way ha hb
  rw [e] at this
  exact this
theorem Sy.Ok.sm {y : Sy} (h : y.Ok) : y.Sm := by
 obtain ⟨⟨h1, h4⟩, hs, hh, hw⟩ := h.cn
 obtain ⟨b1, b2, b3, b4⟩ := h.bds
 have h16 : y.pn * y.pn <= 16 := zP (Nat.mul_le_mul h4 h4) (by omega)
 exact ⟨⟨by omega, by omega, by omega, by omega⟩, fun i hi => by have := b1 i hi; omega, fun i hi => by have := okS_len (b2 i hi); omega, fun i hi => by have := b3 i hi; omega, fun i hi => by have := b4 i hi; omega⟩
theorem l5Step_out (y : Sy) (p f : Int) (w : World) (B : Nat) (v : Value) (o : OwnSys true w B y v) (hB : B <= w.heap.size) (hn : y.pn <= 1048576) (t1 : inB p 0 ((y.pn : Int) - 1) = false) :
  Calls Tryz.prog 45 #[v, .int .i64 p, .int .i64 f] w fun e w' => e = .returned (.tuple #[v, .int .i64 2]) /\ Below B w w' /\ OwnSys true w' B y v := by
 obtain ⟨c, vp, vs, vw, vh, up, us, uw, uh, rfl, o⟩ := o
 obtain ⟨pa, pc, rfl⟩ := zU o.p.row
 obtain ⟨sa, sc, rfl⟩ := zU o.s.row
 obtain ⟨wa, wc, rfl⟩ := zU o.t.row
 obtain ⟨ha, hc, rfl⟩ := zU o.h.row
 have hpn : (y.pn : Int) <= 1048576 := by omega
 have hM : B <= w.heap.size + 1 := by omega
 have BW : Hid (Below w.heap.size w ((w.alloc (oQ4 pa y.pn pc sa y.sn sc wa y.wn wc ha y.hn hc)).alloc (zQ4))) := (zQ _ _).trans ((zQ _ _).mono (by simp))
 have NB : Hid (BoxC ((w.alloc (oQ4 pa y.pn pc sa y.sn sc wa y.wn wc ha y.hn hc)).alloc (zQ4)) w.heap.size (.slice pa y.pn pc) (.slice sa y.sn sc) (.slice wa y.wn wc) (.slice ha y.hn hc)) := (BoxC.new w _ _ _ _ _).below (zQ _ _)
 have RB : Hid (BoxC ((w.alloc (oQ4 pa y.pn pc sa y.sn sc wa y.wn wc ha y.hn hc)).alloc (zQ4)) (w.heap.size + 1) (.slice none 0 0) (.slice none 0 0) (.slice none 0 0) (.slice none 0 0) /\ ∀ j, ((w.alloc (oQ4 pa y.pn pc sa y.sn sc wa y.wn wc ha y.hn hc)).alloc (zQ4)).frozen? ⟨w.heap.size + 1, j, none⟩ = false) := ⟨⟨zW _ _ _ 0 (by simp), zW _ _ _ 1 (by simp), zW _ _ _ 2 (by simp), zW _ _ _ 3 (by simp)⟩, fun j => yB _ _ _ _ (by simp)⟩
 have l1 : w.heap.size + 1 < ((w.alloc (oQ4 pa y.pn pc sa y.sn sc wa y.wn wc ha y.hn hc)).alloc (zQ4)).heap.size := by simp
 have OO : Hid (OwnS true w B c y (.slice pa y.pn pc) (.slice sa y.sn sc) (.slice wa y.wn wc) (.slice ha y.hn hc) up us uw uh) := o
 clear o
 go_enter Tryz.func45, Tryz.ntmps45
 go_wp2_with fail
 refine (l1In_any _ _ _ _).mono ?_
 rintro e w1 ⟨rfl, rfl⟩
 rw [t1]
 generalize (w.alloc (oQ4 pa y.pn pc sa y.sn sc wa y.wn wc ha y.hn hc)).alloc (zQ4) = W2 at *
 obtain ⟨b0, b1, b2, b3⟩ := NB.out
 obtain ⟨⟨r0, r1, r2, r3⟩, rf⟩ := RB.out
 have O2 : Hid (OwnS true W2 B (rcol c w.heap.size 0) y (.slice pa y.pn pc) (.slice sa y.sn sc) (.slice wa y.wn wc) (.slice ha y.hn hc) up us uw uh) := (OO.out.recol 0).below BW.out
 have BB : Hid (Below B w W2) := BW.out.mono hB
 go_wp2
 exact bodyPost_ret (v := .tuple #[sysV pa y.pn pc sa y.sn sc wa y.wn wc ha y.hn hc, .int .i64 2]) (by simp [results, Tryz.results45, go_sem, r0, r1, r2, r3]) rfl ⟨rfl, (((BB.out.setCell hM _).setCell hM _).setCell hM _).setCell hM _, O2.out.out4 (rcol_new (Nat.le_succ _)) rfl _ _ _ _⟩
noncomputable def stC (y : Sy) (p f : Int) : Int := if y.okB = true then (if belB p y.pn = true then cmS y p.toNat f else 2) else 1
noncomputable def stY (y : Sy) (p f : Int) : Sy := if y.okB = true then (if belB p y.pn = true then y.step p.toNat f else y) else { y with pn := 0, sn := 0, wn := 0, hn := 0 }
theorem specStep_any (x : SysIn) (p f : Int) (w : World) (hG : SysG w x) (hL : x.Len) (hcap : ∀ i, i < x.hn -> x.hL i <= x.hC i) :
  Calls Tryz.prog 12 #[x.v, .int .i64 p, .int .i64 f] w fun e w' => ∃ v, e = .returned (.tuple #[v, .int .i64 (stC x.y p f)]) /\ OwnSys true w' w.heap.size (stY x.y p f) v /\ Below w.heap.size w w' := by
 have HG : Hid (SysG w x) := hG
 have HL : Hid x.Len := hL
 have HS : Hid (∀ wx, Below w.heap.size w wx -> Calls Tryz.prog 44 #[x.v] wx fun e w' => e = .returned (.bool x.y.okB) /\ Below wx.heap.size wx w') := fun wx hb => specSysOk_any x wx (HG.out.below hb) hL hcap
 have HC4 : Hid (∀ wx, Below w.heap.size w wx -> Calls Tryz.prog 46 #[x.v] wx fun e w' => ∃ v, e = .returned v /\ OwnSys true w' wx.heap.size x.y v /\ Below wx.heap.size wx w') := fun wx hb => l4Copy_any x wx (HG.out.below hb) hL
 have BW : Hid (Below w.heap.size w ((w.alloc (oQ4 x.pa x.pn x.pc x.sa x.sn x.sc x.wa x.wn x.wc x.ha x.hn x.hc)).alloc (zQ4))) := (zQ _ _).trans ((zQ _ _).mono (by simp))
 have NB : Hid (BoxC ((w.alloc (oQ4 x.pa x.pn x.pc x.sa x.sn x.sc x.wa x.wn x.wc x.ha x.hn x.hc)).alloc (zQ4)) w.heap.size (.slice x.pa x.pn x.pc) (.slice x.sa x.sn x.sc) (.slice x.wa x.wn x.wc) (.slice x.ha x.hn x.hc)) := (BoxC.new w _ _ _ _ _).below (zQ _ _)
 have RB : Hid (BoxC ((w.alloc (oQ4 x.pa x.pn x.pc x.sa x.sn x.sc x.wa x.wn x.wc x.ha x.hn x.hc)).alloc (zQ4)) (w.heap.size + 1) (.slice none 0 0) (.slice none 0 0) (.slice none 0 0) (.slice none 0 0) /\ ∀ j, ((w.alloc (oQ4 x.pa x.pn x.pc x.sa x.sn x.sc x.wa x.wn x.wc x.ha x.hn x.hc)).alloc (zQ4)).frozen? ⟨w.heap.size + 1, j, none⟩ = false) := ⟨⟨zW _ _ _ 0 (by simp), zW _ _ _ 1 (by simp), zW _ _ _ 2 (by simp), zW _ _ _ 3 (by simp)⟩, fun j => yB _ _ _ _ (by simp)⟩
 have hM : w.heap.size <= w.heap.size + 1 := Nat.le_succ _
 clear hG hL hcap
 go_enter Tryz.func12, Tryz.ntmps12
 go_wp2_with fail
 generalize (w.alloc (oQ4 x.pa x.pn x.pc x.sa x.sn x.sc x.wa x.wn x.wc x.ha x.hn x.hc)).alloc (zQ4) = W2 at *
 refine (HS.out W2 BW.out).mono ?_
 rintro e w1 ⟨rfl, q1⟩
 have B1 : Hid (Below w.heap.size w w1 /\ BoxC w1 w.heap.size (.slice x.pa x.pn x.pc) (.slice x.sa x.sn x.sc) (.slice x.wa x.wn x.wc) (.slice x.ha x.hn x.hc) /\ BoxC w1 (w.heap.size + 1) (.slice none 0 0) (.slice none 0 0) (.slice none 0 0) (.slice none 0 0) /\ ∀ j, w1.frozen? ⟨w.heap.size + 1, j, none⟩ = false) := ⟨BW.out.trans (q1.mono BW.out.size), NB.out.below q1, RB.out.1.below q1, fun j => ((bcell q1).2 _ j (zJ _ _ RB.out.1.1)).trans (RB.out.2 j)⟩
 clear q1 BW NB RB HS
 have l1 : w.heap.size + 1 < w1.heap.size := zJ _ _ B1.out.2.2.1.1
 obtain ⟨b0, b1, b2, b3⟩ := B1.out.2.1
 rcases zK x.y.okB with t | t
 case inr =>
  have HV : Hid (stC x.y p f = 1 /\ stY x.y p f = { x.y with pn := 0, sn := 0, wn := 0, hn := 0 }) := ⟨if_neg (by rw [t]; simp), if_neg (by rw [t]; simp)⟩
  obtain ⟨⟨r0, r1, r2, r3⟩, rf⟩ := B1.out.2.2
  rw [t]
  clear t
  go_wp2
  exact bodyPost_ret (v := .tuple #[sysV none 0 0 none 0 0 none 0 0 none 0 0, .int .i64 1]) (by simp [results, Tryz.results12, go_sem, r0, r1, r2, r3]) rfl ⟨_, by rw [HV.out.1], by rw [HV.out.2]; exact OwnSys.zero _ _ _, (((B1.out.1.setCell hM _).setCell hM _).setCell hM _).setCell hM _⟩
 have HO : Hid x.y.Ok := Sy.ok_of t
 have HC : Hid (∀ wx v, w1.heap.size <= wx.heap.size -> OwnSys true wx w1.heap.size x.y v -> Calls Tryz.prog 45 #[v, .int .i64 p, .int .i64 f] wx fun e w' => e = .returned (.tuple #[v, .int .i64 (stC x.y p f)]) /\ Below w1.heap.size wx w' /\ OwnSys true w' w1.heap.size (stY x.y p f) v) := by
  show ∀ wx v, _
  intro wx v hwx o
  have hc4 : x.y.pn <= 4 := HO.out.cn.1.2
  by_cases hb : belB p x.y.pn = true
  ·have hb' : 0 <= p /\ p < (x.y.pn : Int) := by simpa [belB] using hb
   obtain ⟨k, rfl⟩ : ∃ k : Nat, p = k := ⟨p.toNat, by omega⟩
   rw [stC, if_pos t, if_pos hb, stY, if_pos t, if_pos hb]
   exact l5Step_any x.y k f wx _ v o (by omega) HO.out
  ·rw [stC, if_pos t, if_neg hb, stY, if_pos t, if_neg hb]
   exact l5Step_out x.y p f wx _ v o hwx (by omega) (by
    simp only [inB, decide_eq_false_iff_not]
    simp only [belB, decide_eq_true_eq] at hb
    omega)
 have HZ : Hid (stC x.y p f ≠ 0 -> stY x.y p f = x.y) := fun h => by
  rw [stC, if_pos t] at h
  rw [stY, if_pos t]
  by_cases hb : belB p x.y.pn = true
  ·rw [if_pos hb] at h ⊢
   exact Sy.step_no h
  ·rw [if_neg hb]
 rw [t]
 clear t
 go_wp2_with fail
 refine (HC4.out w1 B1.out.1).mono ?_
 rintro e w3 ⟨v3, rfl, o3, q3⟩
 obtain ⟨pa, pc, sa, sc, wa, wc, ha, hc, rfl⟩ := o3.form
 have HC' := HC.out w3 _ q3.size o3
 clear HC
 generalize hC : stC x.y p f = C at *
 generalize hY : stY x.y p f = Y at *
 go_wp2_with fail
 refine HC'.mono ?_
 rintro e w5 ⟨rfl, q5, o5⟩
 have Q5 : Below w1.heap.size w1 w5 := q3.trans q5
 have B5 : Hid (Below w.heap.size w w5 /\ BoxC w5 w.heap.size (.slice x.pa x.pn x.pc) (.slice x.sa x.sn x.sc) (.slice x.wa x.wn x.wc) (.slice x.ha x.hn x.hc) /\ BoxC w5 (w.heap.size + 1) (.slice none 0 0) (.slice none 0 0) (.slice none 0 0) (.slice none 0 0) /\ (∀ j, w5.frozen? ⟨w.heap.size + 1, j, none⟩ = false) /\ w1.heap.size <= w5.heap.size /\ OwnSys true w5 w1.heap.size Y (sysV pa x.y.pn pc sa x.y.sn sc wa x.y.wn wc ha x.y.hn hc)) := ⟨B1.out.1.trans (Q5.mono B1.out.1.size), B1.out.2.1.below Q5, B1.out.2.2.1.below Q5, fun j => ((bcell Q5).2 _ j l1).trans (B1.out.2.2.2 j), Q5.size, o5⟩
 clear o3 q3 q5 o5 Q5 HC' B1 b0 b1 b2 b3
 obtain ⟨b0, b1, b2, b3⟩ := B5.out.2.1
 obtain ⟨r0, r1, r2, r3⟩ := B5.out.2.2.1
 have rf := B5.out.2.2.2.1
 have l5 : w.heap.size + 1 < w5.heap.size := zJ _ _ r0
 have l50 : w.heap.size < w5.heap.size := by omega
 by_cases hc0 : C = 0
 ·subst hc0
  go_wp2
  exact bodyPost_ret (v := .tuple #[sysV pa x.y.pn pc sa x.y.sn sc wa x.y.wn wc ha x.y.hn hc, .int .i64 0]) (by simp [results, Tryz.results12, go_sem, r0, r1, r2, r3, l5]) rfl ⟨_, by rw [hC], by
   rw [hY]
   exact (((((B5.out.2.2.2.2.2.setBelow l1 0 _).setBelow l1 1 _).setBelow l1 2 _).setBelow l1 3 _).below (zQ _ _)).base (by omega), ((((B5.out.1.setCell hM _).setCell hM _).setCell hM _).setCell hM _).trans ((zQ _ _).mono (by simp; omega))⟩
 ·have tc : (C == 0) = false := by simpa using hc0
  go_wp2_with fail
  refine (HC4.out _ (B5.out.1.trans ((zQ _ _).mono (Nat.le_of_lt l50)))).mono ?_
  rintro e w7 ⟨v7, rfl, o7, q7⟩
  obtain ⟨pa7, pc7, sa7, sc7, wa7, wc7, ha7, hc7, rfl⟩ := o7.form
  have Q7 : Below w5.heap.size w5 w7 := (zQ _ _).trans (q7.mono (by simp))
  have hc := (bcell Q7).1
  replace r0 := (hc _ _ l5).trans r0
  replace r1 := (hc _ _ l5).trans r1
  replace r2 := (hc _ _ l5).trans r2
  replace r3 := (hc _ _ l5).trans r3
  replace rf : ∀ j, w7.frozen? ⟨w.heap.size + 1, j, none⟩ = false := fun j => ((bcell Q7).2 _ j l5).trans (rf j)
  have l7 : w.heap.size + 1 < w7.heap.size := zL l5 Q7.size
  have B7 : Hid (Below w.heap.size w w7 /\ OwnSys true w7 w5.heap.size x.y (sysV pa7 x.y.pn pc7 sa7 x.y.sn sc7 wa7 x.y.wn wc7 ha7 x.y.hn hc7)) := ⟨B5.out.1.trans (Q7.mono (Nat.le_of_lt l50)), o7.base (by simp)⟩
  clear o7 q7 Q7 hc B5 b0 b1 b2 b3
  go_wp2
  exact bodyPost_ret (v := .tuple #[sysV pa7 x.y.pn pc7 sa7 x.y.sn sc7 wa7 x.y.wn wc7 ha7 x.y.hn hc7, .int .i64 C]) (by simp [results, Tryz.results12, go_sem, r0, r1, r2, r3]) rfl ⟨_, by rw [hC], by
   rw [hY, HZ.out hc0]
   exact ((((B7.out.2.setBelow l5 0 _).setBelow l5 1 _).setBelow l5 2 _).setBelow l5 3 _).base (by omega), (((B7.out.1.setCell hM _).setCell hM _).setCell hM _).setCell hM _⟩
theorem l1Max_any (a b : Int) (w : World) : Calls Tryz.prog 95 #[.int .i64 a, .int .i64 b] w fun e w' => ∃ z : Int, e = .returned (.int .i64 z) /\ (a <= z /\ b <= z /\ (z = a \/ z = b)) /\ w' = w := by
 by_cases t : b < a
 ·go_enter Tryz.func95, Tryz.ntmps95
  go_wp2
  go_ret
  exact ⟨_, rfl, by omega, rfl⟩
 ·go_enter Tryz.func95, Tryz.ntmps95
  go_wp2
  go_ret
  exact ⟨_, rfl, by omega, rfl⟩
structure DrN (w wr : World) (W0 len cap : Nat) (a0 : Option Addr) (c : Nat) (v : Value) (k : Nat) : Prop where
 ll : ∃ u L H, LI true wr (fun b => c < b) v k u L H /\ ∀ i, i < k -> L i <= 31
 cu : Cur wr W0 c a0 len cap
 gr : w.grownBy wr none
 nn : v ≠ .slice none 0 0
def DrawnN (w : World) (e : Ending) (w' : World) : Prop := ∃ (pa : Option Addr) (k pc : Nat) (A : Nat -> Option Addr) (L C : Nat -> Nat) (H : Nat -> Nat -> I5), e = .returned (.slice pa k pc) /\ k <= 5 /\ (∀ i, i < k -> L i <= 31) /\ (RowS w' pa k fun i => .slice (A i) (L i) (C i)) /\ (∀ i, i < k -> ∃ b, A i = some ⟨b, 0, none⟩ /\ b < w'.heap.size /\ InsAt w' b 0 (L i) (H i)) /\ Below w.heap.size w w'
def pick05 (j : Nat) : Int := [(0 : Int), 5].getD j 0
open Go.Sort
def chN (x : SysIn) (p : Nat) : Nat := if x.nq p = 9 then x.pn else 1
def rdL (c : Nat -> Int) : Nat -> List Int
 | 0 => []
 | k + 1 => if c k = 0 then rdL c k ++ [(k : Int)] else rdL c k
theorem rdL_hit {c : Nat -> Int} {k : Nat} (h : c k = 0) : rdL c (k + 1) = rdL c k ++ [(k : Int)] := by rw [rdL, if_pos h]
theorem rdL_not {c : Nat -> Int} {k : Nat} (h : ¬ c k = 0) : rdL c (k + 1) = rdL c k := by rw [rdL, if_neg h]
theorem rdL_le (c : Nat -> Int) (k : Nat) : (rdL c k).length <= k := by
 induction k with
 | zero => simp [rdL]
 | succ k ih =>
  rw [rdL]
  split
  ·rw [List.length_append]; simp; exact ih
  ·omega
theorem box_low {w w' : World} {N : Nat} {a b c d : Value} (h : Below (N + 1) w w') (o : BoxC w N a b c d) : BoxC w' N a b c d :=
 ⟨(h.cell (p := ⟨N, 0, none⟩) (Nat.lt_succ_self _)).trans o.1, (h.cell (p := ⟨N, 1, none⟩) (Nat.lt_succ_self _)).trans o.2.1, (h.cell (p := ⟨N, 2, none⟩) (Nat.lt_succ_self _)).trans o.2.2.1, (h.cell (p := ⟨N, 3, none⟩) (Nat.lt_succ_self _)).trans o.2.2.2⟩
def rdX (x : SysIn) (p : Nat) : List Int := rdL (fun j => cmC x p j) (chN x p)
noncomputable def hltB (x : SysIn) : Bool := x.y.okB && (List.range x.pn).all fun p => (rdX x p).isEmpty
theorem OwnSys.formJ {w : World} {B : Nat} {y : Sy} {v : Value} (o : OwnSys true w B y v) : ∃ pa pc sa sc wa wc ha hc, v = sysV pa y.pn pc sa y.sn sc wa y.wn wc ha y.hn hc := by
 obtain ⟨c, vp, vs, vw, vh, up, us, uw, uh, rfl, o⟩ := o
 obtain ⟨pa, pc, rfl⟩ := zU o.p.row
 obtain ⟨sa, sc, rfl⟩ := zU o.s.row
 obtain ⟨wa, wc, rfl⟩ := zU o.t.row
 obtain ⟨ha, hc, rfl⟩ := zU o.h.row
 exact ⟨pa, pc, sa, sc, wa, wc, ha, hc, rfl⟩
theorem Sy.Ok.any {y : Sy} (h : y.Ok) {p : Nat} (hp : p < y.pn) (hq : y.nq p = 9) : y.nk p = 3 := by
 by_cases hk : y.nk p = 2
 ·have h1 := h.peer hp hk
  have h2 := h.cn.1.2
  omega
 ·unfold Sy.nk nxK at *
  unfold Sy.nq nxP at hq
  by_cases hr : rightB (y.pH p) (y.pL p) (y.sS p).p (y.sS p).rs (y.sS p).os (y.sS p).c = true
  ·rw [if_pos hr] at *
   unfold evP at hq
   unfold evK at *
   by_cases e6 : (y.pH p (y.sS p).p.toNat).o = 6
   ·rw [if_pos e6] at hk
    exact absurd rfl hk
   ·rw [if_neg e6] at *
    by_cases e7 : (y.pH p (y.sS p).p.toNat).o = 7
    ·rw [if_pos e7]
    ·rw [if_neg e7] at hq
     cases hq
  ·rw [if_neg hr] at hq
   cases hq
theorem rdL_none {c : Nat -> Int} : ∀ {n : Nat}, (∀ j, j < n -> c j ≠ 0) -> rdL c n = []
 | 0, _ => rfl
 | n + 1, h => by rw [rdL_not (h n (by omega)), rdL_none fun j hj => h j (by omega)]
theorem l5Ready_out (x : SysIn) (p : Int) (w : World) (h1 : x.pn <= 1048576) (t1 : inB p 0 ((x.pn : Int) - 1) = false) :
  Calls Tryz.prog 173 #[x.v, .int .i64 p] w fun e w' => ∃ u, e = .returned u /\ OwnI w' w.heap.size u [] /\ Below w.heap.size w w' := by
 have hpn : (x.pn : Int) <= 1048576 := by omega
 have OW : Hid (OwnI ((w.alloc (oQ4 x.pa x.pn x.pc x.sa x.sn x.sc x.wa x.wn x.wc x.ha x.hn x.hc)).alloc (.cells #[] 3)) (w.heap.size + 1) (.slice (some ⟨w.heap.size + 1, 0, none⟩) 0 0) []) := own_emptyN (w.alloc (oQ4 x.pa x.pn x.pc x.sa x.sn x.sc x.wa x.wn x.wc x.ha x.hn x.hc)) (by simp)
 have BW : Hid (Below w.heap.size w ((w.alloc (oQ4 x.pa x.pn x.pc x.sa x.sn x.sc x.wa x.wn x.wc x.ha x.hn x.hc)).alloc (.cells #[] 3))) := (zQ _ _).trans ((zQ _ _).mono (by simp))
 go_enter Tryz.func173, Tryz.ntmps173
 go_wp2_with fail
 refine (l1In_any _ _ _ _).mono ?_
 rintro e w1 ⟨rfl, rfl⟩
 rw [t1]
 go_wp2
 go_ret
 exact ⟨_, rfl, OW.out.mono (Nat.le_succ _), BW.out⟩
theorem l5Ready_any (x : SysIn) (p : Nat) (w : World) (hG : SysG w x) (hL : x.Len) (hO : x.y.Ok) (hp : p < x.pn) :
  Calls Tryz.prog 173 #[x.v, .int .i64 p] w fun e w' => ∃ u, e = .returned u /\ OwnI w' w.heap.size u (rdX x p) /\ Below w.heap.size w w' := by
 have HG : Hid (SysG w x) := hG
 have HL : Hid x.Len := hL
 have HO : Hid x.y.Ok := hO
 obtain ⟨⟨h1, h4⟩, hs, hh, hw⟩ := hO.cn
 have hps : p < x.sn := by have : x.sn = x.pn := hs; omega
 have h4x : x.pn <= 4 := h4
 have hp' : (p : Int) < (x.pn : Int) := by omega
 have hps' : (p : Int) < (x.sn : Int) := by omega
 have h4' : (x.pn : Int) <= 4 := by omega
 have tA : inB (p : Int) 0 ((x.pn : Int) - 1) = true := by simp only [inB, decide_eq_true_eq]; omega
 have OW : Hid (OwnI ((w.alloc (oQ4 x.pa x.pn x.pc x.sa x.sn x.sc x.wa x.wn x.wc x.ha x.hn x.hc)).alloc (.cells #[] 3)) (w.heap.size + 1) (.slice (some ⟨w.heap.size + 1, 0, none⟩) 0 0) []) := own_emptyN (w.alloc (oQ4 x.pa x.pn x.pc x.sa x.sn x.sc x.wa x.wn x.wc x.ha x.hn x.hc)) (by simp)
 have BW : Hid (Below w.heap.size w ((w.alloc (oQ4 x.pa x.pn x.pc x.sa x.sn x.sc x.wa x.wn x.wc x.ha x.hn x.hc)).alloc (.cells #[] 3))) := (zQ _ _).trans ((zQ _ _).mono (by simp))
 have NB : Hid (BoxC ((w.alloc (oQ4 x.pa x.pn x.pc x.sa x.sn x.sc x.wa x.wn x.wc x.ha x.hn x.hc)).alloc (.cells #[] 3)) w.heap.size (.slice x.pa x.pn x.pc) (.slice x.sa x.sn x.sc) (.slice x.wa x.wn x.wc) (.slice x.ha x.hn x.hc)) := (BoxC.new w _ _ _ _ _).below (zQ _ _)
 have l0 : w.heap.size < ((w.alloc (oQ4 x.pa x.pn x.pc x.sa x.sn x.sc x.wa x.wn x.wc x.ha x.hn x.hc)).alloc (.cells #[] 3)).heap.size := by simp; omega
 clear hG hL hO hs hh hw h1 h4
 go_enter Tryz.func173, Tryz.ntmps173
 go_wp2_with fail
 refine (l1In_any _ _ _ _).mono ?_
 rintro e w1 ⟨rfl, rfl⟩
 rw [tA]
 generalize (w.alloc (oQ4 x.pa x.pn x.pc x.sa x.sn x.sc x.wa x.wn x.wc x.ha x.hn x.hc)).alloc (.cells #[] 3) = W2 at *
 obtain ⟨bp, op, ep, cp⟩ := (HG.out.below BW.out).p.at hp
 obtain ⟨b', eb', hbl, hI⟩ := (HG.out.below BW.out).pi p hp
 obtain ⟨bs, os, es, s0, s1, s2, s3⟩ := (HG.out.below BW.out).s.at hps
 have hsl := (HG.out.below BW.out).s.lst p hps
 obtain ⟨b0, b1, b2, b3⟩ := NB.out
 rw [eb'] at cp
 rw [ep] at b0
 rw [es] at b1
 have lp2 : bp < W2.heap.size := zJ W2 _ cp
 have ls2 : bs < W2.heap.size := zJ W2 _ s0
 have HI : Hid (InsAt W2 b' 0 (x.pL p) (x.pH p) /\ b' < W2.heap.size) := ⟨hI, hbl⟩
 have SL : Hid (Sl W2 (x.sQ p).ra (x.sQ p).rs /\ Sl W2 (x.sQ p).oa (x.sQ p).os) := hsl
 have EP : Hid (x.pa = some ⟨bp, op, none⟩ /\ x.sa = some ⟨bs, os, none⟩) := ⟨ep, es⟩
 clear hI hsl tA eb' hbl ep es
 by_cases hc : (x.sQ p).c = 0
 case neg =>
  have HV : Hid (rdX x p = []) := rdL_none fun j _ => by
   rw [cmC_y, cmS, if_pos (by exact hc)]
   decide
  have t0 : ((x.sQ p).c == 0) = false := by simpa using hc
  go_wp2
  go_ret
  rw [HV.out]
  exact ⟨_, rfl, OW.out.mono (Nat.le_succ _), BW.out⟩
 have HR : Hid (rightB (x.pH p) (x.pL p) (x.sQ p).p (x.sQ p).rs (x.sQ p).os 0 = true) := HO.out.right hp hc
 rw [hc] at s3
 obtain ⟨hpk, hst, -⟩ := right_parts HR.out
 obtain ⟨⟨q0, q1, q2, q3, ers, -⟩, ⟨k, ek, hkl⟩, -⟩ := st_parts hst
 have h4r : (x.sQ p).rs.length = 4 := by rw [ers]; rfl
 have HX : Hid (x.pL p <= maxLen /\ (x.sQ p).rs.length = 4 /\ k < x.pL p /\ progOkB (x.pH p) (x.pL p) 4 = true) := ⟨by have := (prog_len hpk).2; unfold maxLen; omega, h4r, hkl, hpk⟩
 have HN3 : Hid (x.nk p = evK (x.pH p k).o /\ x.nq p = evP (x.pH p k).o (x.pH p k).n /\ x.nv p = evW (x.pH p k).o (x.pH p k).a (x.sQ p).rs) := by
  have ek' : (x.sQ p).p.toNat = k := by omega
  refine ⟨?_, ?_, ?_⟩
  ·show nxK _ _ _ _ _ _ = _
   rw [hc, nxK, if_pos HR.out, ek']
  ·show nxP _ _ _ _ _ _ = _
   rw [hc, nxP, if_pos HR.out, ek']
  ·show nxW _ _ _ _ _ _ = _
   rw [hc, nxW, if_pos HR.out, ek']
 rw [ek] at s0
 clear hpk hst ers h4r hkl q0 q1 q2 q3 HR ek hc
 go_wp2_with fail
 go_cut [7] from 31 to 41 (fun s wx => ∃ N : Nat, s = .pointer (some ⟨N, 0, none⟩) /\ Hid (Below W2.heap.size W2 wx /\ W2.heap.size <= N /\ EvK wx N (x.nk p) (x.nq p) (x.nv p)))
 case first =>
  refine wp_region_G (fun w' => w'.cell? ⟨w.heap.size, 0, none⟩ = some (.slice (some ⟨bp, op, none⟩) x.pn x.pc) /\ w'.cell? ⟨w.heap.size, 1, none⟩ = some (.slice (some ⟨bs, os, none⟩) x.sn x.sc) /\ w'.cell? ⟨bp, op + p, none⟩ = some (.slice (some ⟨b', 0, none⟩) (x.pL p) (x.pC p)) /\ w'.cell? ⟨bs, os + p * 4, none⟩ = some (.int .i64 (k : Int)) /\ w'.cell? ⟨bs, os + p * 4 + 1, none⟩ = some (.slice (x.sQ p).ra (x.sQ p).rs.length (x.sQ p).rc) /\ w'.cell? ⟨bs, os + p * 4 + 2, none⟩ = some (.slice (x.sQ p).oa (x.sQ p).os.length (x.sQ p).oc) /\ w'.cell? ⟨bs, os + p * 4 + 3, none⟩ = some (.int .i64 0)) (fun i => i == 12) (by kernel_rfl) ?_
  have hHeld := And.intro b0 (And.intro b1 (And.intro cp (And.intro s0 (And.intro s1 (And.intro s2 s3)))))
  refine wpGT_of [0, 1, 2, 3, 4, 5, 6, 7, 8, 9] ?_
  iterate 10 (refine wpGT_take rfl hHeld ?_; apply Exists.intro; refine ⟨fun wq hSw => ?_, ?_⟩; (· ((try dsimp only at hSw); go_simp; try with_reducible rfl)); (try simp only [Act.put, zD, zE, zF]))
  refine wpGT_nil ?_
  refine wpG_two 10 11 rfl rfl (by kernel_rfl) (fun K hK => ?_) (fun K hK => ?_)
  ·refine stepR_call rfl 118 _ _ rfl #[.slice (some ⟨b', 0, none⟩) (x.pL p) (x.pC p), stV k (x.sQ p).ra (x.sQ p).rs.length (x.sQ p).rc (x.sQ p).oa (x.sQ p).os.length (x.sQ p).oc 0] (by simp [Act.eval]) (yA Tryz.func118 (by kernel_rfl) rfl) (l2Next_any b' 0 (x.pL p) (x.pC p) k (x.pH p) 0 (x.sQ p).ra (x.sQ p).oa (x.sQ p).rc (x.sQ p).os.length (x.sQ p).oc (x.sQ p).rs (W2.drew) HX.out.1 (zL HI.out.2 ((Below.refl W2.heap.size W2).drew).size) (HI.out.1.below ((Below.refl W2.heap.size W2).drew) HI.out.2) (SL.out.1.below ((Below.refl W2.heap.size W2).drew)) HX.out.2.1 HX.out.2.2.1 HX.out.2.2.2) ?_
   rintro e w5 ⟨he, d5⟩
   rw [<- HN3.out.1, <- HN3.out.2.1, <- HN3.out.2.2] at he
   refine ⟨_, he, ?_⟩
   have q5 : Below W2.heap.size W2 w5 := below_up ((Below.refl W2.heap.size W2).drew) d5 (by simp)
   have hc5 := (bcell q5).1
   have hHeld5 := And.intro ((hc5 _ _ l0).trans b0) (And.intro ((hc5 _ _ l0).trans b1) (And.intro ((hc5 _ _ lp2).trans cp) (And.intro ((hc5 _ _ ls2).trans s0) (And.intro ((hc5 _ _ ls2).trans s1) (And.intro ((hc5 _ _ ls2).trans s2) ((hc5 _ _ ls2).trans s3))))))
   refine hK.out _ _ (fun _ => hHeld5) ?_
   clear hK K
   (try simp only [Act.put, zD, zE, zF])
   refine wpG_one 11 rfl (by kernel_rfl) (fun K hK => ?_)
   go_simp
   have ba := zQ w5 (zQ6)
   have z5 := q5.size
   have hca := (bcell ba).1
   obtain ⟨e0, e1, e2, e3, e4, e5, e6⟩ := hHeld5
   refine hK.out _ _ (fun _ => ⟨(hca _ _ (by omega)).trans e0, (hca _ _ (by omega)).trans e1, (hca _ _ (by omega)).trans e2, (hca _ _ (by omega)).trans e3, (hca _ _ (by omega)).trans e4, (hca _ _ (by omega)).trans e5, (hca _ _ (by omega)).trans e6⟩) ?_
   clear hca
   clear hK K
   (try simp only [Act.put, zD, zE, zF])
   refine wpG_one 12 rfl (by kernel_rfl) (fun K hK => ?_)
   go_simp
   refine hK.out _ _ (fun h => ?_) ?_
   ·exact absurd h (by decide)
   clear hK K
   (try simp only [Act.put])
   refine wpG_done (by kernel_rfl) ?_ _
   go_wp2_with fail
   go_meet
   case rel =>
    exact ⟨w5.heap.size, by with_reducible rfl, q5.trans ((zQ _ _).mono q5.size), q5.size, EvK.new _ _ _ _ _⟩
  ·go_simp
   have ba : Below W2.heap.size W2 (W2.drew.alloc (zQ6)) := (Below.refl W2.heap.size W2).drew.trans (zQ W2.drew (zQ6))
   have hca := (bcell ba).1
   refine hK.out _ _ (fun _ => ⟨(hca _ _ l0).trans b0, (hca _ _ l0).trans b1, (hca _ _ lp2).trans cp, (hca _ _ ls2).trans s0, (hca _ _ ls2).trans s1, (hca _ _ ls2).trans s2, (hca _ _ ls2).trans s3⟩) ?_
   clear hK K hca
   (try simp only [Act.put, zD, zE, zF])
   refine wpG_one 10 rfl (by kernel_rfl) (fun K hK => ?_)
   refine stepR_call rfl 118 _ _ rfl #[.slice (some ⟨b', 0, none⟩) (x.pL p) (x.pC p), stV k (x.sQ p).ra (x.sQ p).rs.length (x.sQ p).rc (x.sQ p).oa (x.sQ p).os.length (x.sQ p).oc 0] (by simp [Act.eval]) (yA Tryz.func118 (by kernel_rfl) rfl) (l2Next_any b' 0 (x.pL p) (x.pC p) k (x.pH p) 0 (x.sQ p).ra (x.sQ p).oa (x.sQ p).rc (x.sQ p).os.length (x.sQ p).oc (x.sQ p).rs (W2.drew.alloc (zQ6)) HX.out.1 (zL HI.out.2 (ba).size) (HI.out.1.below (ba) HI.out.2) (SL.out.1.below (ba)) HX.out.2.1 HX.out.2.2.1 HX.out.2.2.2) ?_
   rintro e w5 ⟨he, d5⟩
   rw [<- HN3.out.1, <- HN3.out.2.1, <- HN3.out.2.2] at he
   refine ⟨_, he, ?_⟩
   have q5 : Below W2.heap.size W2 w5 := below_up (ba) d5 (by simp)
   have hc5 := (bcell q5).1
   have hHeld5 := And.intro ((hc5 _ _ l0).trans b0) (And.intro ((hc5 _ _ l0).trans b1) (And.intro ((hc5 _ _ lp2).trans cp) (And.intro ((hc5 _ _ ls2).trans s0) (And.intro ((hc5 _ _ ls2).trans s1) (And.intro ((hc5 _ _ ls2).trans s2) ((hc5 _ _ ls2).trans s3))))))
   refine hK.out _ _ (fun _ => hHeld5) ?_
   clear hK K
   (try simp only [Act.put, zD, zE, zF])
   have g : EvK w5 W2.heap.size 0 0 0 := (EvK.new W2.drew 0 0 0 71).below d5
   obtain ⟨g0, g1, g2, gf⟩ := id g
   refine wpG_one 12 rfl (by kernel_rfl) (fun K hK => ?_)
   go_simp
   refine hK.out _ _ (fun h => ?_) ?_
   ·exact absurd h (by decide)
   clear hK K
   (try simp only [Act.put])
   refine wpG_done (by kernel_rfl) ?_ _
   go_wp2_with fail
   go_meet
   case rel =>
    exact ⟨W2.heap.size, by with_reducible rfl, ((q5.setCell (Nat.le_refl _) _).setCell (Nat.le_refl _) _).setCell (Nat.le_refl _) _, Nat.le_refl _, EvK.put g _ _ _⟩
 case rest =>
  obtain ⟨N, rfl, HRr⟩ := hcut
  have hbe := HRr.out.1
  have EV : EvK wc N (x.nk p) (x.nq p) (x.nv p) := HRr.out.2.2
  have BC : Hid (Below w.heap.size w wc) := BW.out.trans (hbe.mono BW.out.size)
  have NC : Hid (BoxC wc w.heap.size (.slice x.pa x.pn x.pc) (.slice x.sa x.sn x.sc) (.slice x.wa x.wn x.wc) (.slice x.ha x.hn x.hc)) := NB.out.below hbe
  have OC : Hid (OwnI wc (w.heap.size + 1) (.slice (some ⟨w.heap.size + 1, 0, none⟩) 0 0) []) := OW.out.below hbe
  obtain ⟨k0, k1, k2, kf⟩ := EV
  have HA : Hid (x.nq p = 9 -> x.nk p = 3) := fun h => HO.out.any hp h
  have HD : Hid (rdX x p = rdL (fun j => cmS x.y p j) (if x.nq p = 9 then x.pn else 1)) := rfl
  generalize x.nk p = K at k0 HA
  generalize x.nq p = Q at k1 HA HD
  clear hbe HRr cp s0 s1 s2 s3 b0 b1 b2 b3 SL HI NB BW OW HX HN3 l0 lp2 ls2 EP
  rcases zK (Q == 9) with t9 | t9
  ·have hQ : Q = 9 := by simpa using t9
   have t3 : (K == 3) = true := by
    have := HA.out hQ
    simpa using this
   have HE : Hid (rdX x p = rdL (fun j => cmS x.y p j) x.pn) := by
    show rdX x p = _
    rw [HD.out, if_pos hQ]
   clear HA HD hQ
   go_wp2_with fail
   go_loopw [5, 9] (fun o i wr => ∃ j : Nat, j <= x.pn /\ i = .int .i64 j /\ Hid (OwnI wr (w.heap.size + 1) o (rdL (fun j => cmS x.y p j) j) /\ Below w.heap.size w wr /\ BoxC wr w.heap.size (.slice x.pa x.pn x.pc) (.slice x.sa x.sn x.sc) (.slice x.wa x.wn x.wc) (.slice x.ha x.hn x.hc))) (fun _ i _ => x.pn - (intOf i).toNat)
   case atStart => exact ⟨0, Nat.zero_le _, rfl, OC.out, BC.out, NC.out⟩
   case round =>
    obtain ⟨j, hj, rfl, HZ⟩ := hrel
    clear k0 k1 k2 kf OC BC NC
    have hj4 : (j : Int) <= 4 := by omega
    by_cases hlt : j < x.pn
    ·have hlt' : (j : Int) < (x.pn : Int) := by omega
     obtain ⟨b0, b1, b2, b3⟩ := HZ.out.2.2
     go_wp2_with fail
     refine (l4Copy_any x wr (HG.out.below HZ.out.2.1) HL.out).mono ?_
     rintro e w1 ⟨v1, rfl, o1, q1⟩
     obtain ⟨pa1, pc1, sa1, sc1, wa1, wc1, ha1, hc1, rfl⟩ := o1.formJ
     have O1 : Hid (OwnSys true w1 wr.heap.size x.y (sysV pa1 x.y.pn pc1 sa1 x.y.sn sc1 wa1 x.y.wn wc1 ha1 x.y.hn hc1)) := o1
     have Q1 : Hid (Below wr.heap.size wr w1) := q1
     clear o1 q1 b0 b1 b2 b3
     go_wp2_with fail
     refine (l5Step_code x.y p j w1 wr.heap.size _ O1.out hp HO.out).mono ?_
     rintro e w2 ⟨rfl, q2⟩
     have B2 : Below wr.heap.size wr w2 := Q1.out.trans q2
     have ba := zQ w2 (oQ4 pa1 x.y.pn pc1 sa1 x.y.sn sc1 wa1 x.y.wn wc1 ha1 x.y.hn hc1)
     have B3 : Below wr.heap.size wr (w2.alloc (oQ4 pa1 x.y.pn pc1 sa1 x.y.sn sc1 wa1 x.y.wn wc1 ha1 x.y.hn hc1)) := B2.trans (ba.mono B2.size)
     have F3 : Hid (OwnI (w2.alloc (oQ4 pa1 x.y.pn pc1 sa1 x.y.sn sc1 wa1 x.y.wn wc1 ha1 x.y.hn hc1)) (w.heap.size + 1) u5 (rdL (fun j => cmS x.y p j) j) /\ Below w.heap.size w (w2.alloc (oQ4 pa1 x.y.pn pc1 sa1 x.y.sn sc1 wa1 x.y.wn wc1 ha1 x.y.hn hc1)) /\ BoxC (w2.alloc (oQ4 pa1 x.y.pn pc1 sa1 x.y.sn sc1 wa1 x.y.wn wc1 ha1 x.y.hn hc1)) w.heap.size (.slice x.pa x.pn x.pc) (.slice x.sa x.sn x.sc) (.slice x.wa x.wn x.wc) (.slice x.ha x.hn x.hc)) := ⟨HZ.out.1.below B3, HZ.out.2.1.trans (B3.mono HZ.out.2.1.size), HZ.out.2.2.below B3⟩
     have HLn : Hid ((rdL (fun j => cmS x.y p j) j).length <= 1048576) := zP (rdL_le _ j) (by omega)
     clear q2 O1 Q1 B2 B3 ba HZ
     by_cases hcd : cmS x.y p j = 0
     ·have E0 : Hid (rdL (fun j => cmS x.y p j) (j + 1) = rdL (fun j => cmS x.y p j) j ++ [(j : Int)]) := rdL_hit hcd
      rw [hcd]
      clear hcd
      go_wp2_with (at_builtin; refine append_oneN (w2.alloc (oQ4 pa1 x.y.pn pc1 sa1 x.y.sn sc1 wa1 x.y.wn wc1 ha1 x.y.hn hc1)) (by simp) rfl _ _ rfl (w.heap.size + 1) u5 (rdL (fun j => cmS x.y p j) j) rfl F3.out.1 j rfl HLn.out F3.out.2.2.ltM ?_; intro v5 w5 o5 b5; have F5 : Hid (OwnI w5 (w.heap.size + 1) v5 (rdL (fun j => cmS x.y p j) j ++ [(j : Int)]) /\ Below w.heap.size w w5 /\ BoxC w5 w.heap.size (.slice x.pa x.pn x.pc) (.slice x.sa x.sn x.sc) (.slice x.wa x.wn x.wc) (.slice x.ha x.hn x.hc)) := ⟨o5, F3.out.2.1.trans (b5.mono (Nat.le_succ _)), box_low b5 F3.out.2.2⟩; clear o5 b5)
      go_roundw
      case rel => exact ⟨j + 1, by omega, by go_num, by rw [E0.out]; exact F5.out.1, F5.out.2.1, F5.out.2.2⟩
      case measure => simp [intOf]; omega
     ·have E0 : Hid (rdL (fun j => cmS x.y p j) (j + 1) = rdL (fun j => cmS x.y p j) j) := rdL_not hcd
      have t0 : (cmS x.y p j == 0) = false := by simpa using hcd
      generalize cmS x.y p (j : Int) = cd at t0
      go_wp2
      go_roundw
      case rel => exact ⟨j + 1, by omega, by go_num, by rw [E0.out]; exact F3.out.1, F3.out.2.1, F3.out.2.2⟩
      case measure => simp [intOf]; omega
    ·have hjm : j = x.pn := by omega
     subst hjm
     go_wp2
     go_ret
     exact ⟨_, rfl, by rw [HE.out]; exact HZ.out.1.mono (Nat.le_succ _), HZ.out.2.1⟩
  ·have hQ : ¬ Q = 9 := by simpa using t9
   have HE : Hid (rdX x p = rdL (fun j => cmS x.y p j) 1) := by
    show rdX x p = _
    rw [HD.out, if_neg hQ]
   clear HA HD hQ
   rcases zK (K == 3) with t3 | t3
   ·go_wp2_with fail
    go_loopw [5, 9] (fun o i wr => ∃ j : Nat, j <= (1 : Nat) /\ i = .int .i64 j /\ Hid (OwnI wr (w.heap.size + 1) o (rdL (fun j => cmS x.y p j) j) /\ Below w.heap.size w wr /\ BoxC wr w.heap.size (.slice x.pa x.pn x.pc) (.slice x.sa x.sn x.sc) (.slice x.wa x.wn x.wc) (.slice x.ha x.hn x.hc))) (fun _ i _ => (1 : Nat) - (intOf i).toNat)
    case atStart => exact ⟨0, Nat.zero_le _, rfl, OC.out, BC.out, NC.out⟩
    case round =>
     obtain ⟨j, hj, rfl, HZ⟩ := hrel
     clear k0 k1 k2 kf OC BC NC
     have hj4 : (j : Int) <= 4 := by omega
     by_cases hlt : j < (1 : Nat)
     ·have hlt' : (j : Int) < ((1 : Nat) : Int) := by omega
      obtain ⟨b0, b1, b2, b3⟩ := HZ.out.2.2
      go_wp2_with fail
      refine (l4Copy_any x wr (HG.out.below HZ.out.2.1) HL.out).mono ?_
      rintro e w1 ⟨v1, rfl, o1, q1⟩
      obtain ⟨pa1, pc1, sa1, sc1, wa1, wc1, ha1, hc1, rfl⟩ := o1.formJ
      have O1 : Hid (OwnSys true w1 wr.heap.size x.y (sysV pa1 x.y.pn pc1 sa1 x.y.sn sc1 wa1 x.y.wn wc1 ha1 x.y.hn hc1)) := o1
      have Q1 : Hid (Below wr.heap.size wr w1) := q1
      clear o1 q1 b0 b1 b2 b3
      go_wp2_with fail
      refine (l5Step_code x.y p j w1 wr.heap.size _ O1.out hp HO.out).mono ?_
      rintro e w2 ⟨rfl, q2⟩
      have B2 : Below wr.heap.size wr w2 := Q1.out.trans q2
      have ba := zQ w2 (oQ4 pa1 x.y.pn pc1 sa1 x.y.sn sc1 wa1 x.y.wn wc1 ha1 x.y.hn hc1)
      have B3 : Below wr.heap.size wr (w2.alloc (oQ4 pa1 x.y.pn pc1 sa1 x.y.sn sc1 wa1 x.y.wn wc1 ha1 x.y.hn hc1)) := B2.trans (ba.mono B2.size)
      have F3 : Hid (OwnI (w2.alloc (oQ4 pa1 x.y.pn pc1 sa1 x.y.sn sc1 wa1 x.y.wn wc1 ha1 x.y.hn hc1)) (w.heap.size + 1) u5 (rdL (fun j => cmS x.y p j) j) /\ Below w.heap.size w (w2.alloc (oQ4 pa1 x.y.pn pc1 sa1 x.y.sn sc1 wa1 x.y.wn wc1 ha1 x.y.hn hc1)) /\ BoxC (w2.alloc (oQ4 pa1 x.y.pn pc1 sa1 x.y.sn sc1 wa1 x.y.wn wc1 ha1 x.y.hn hc1)) w.heap.size (.slice x.pa x.pn x.pc) (.slice x.sa x.sn x.sc) (.slice x.wa x.wn x.wc) (.slice x.ha x.hn x.hc)) := ⟨HZ.out.1.below B3, HZ.out.2.1.trans (B3.mono HZ.out.2.1.size), HZ.out.2.2.below B3⟩
      have HLn : Hid ((rdL (fun j => cmS x.y p j) j).length <= 1048576) := zP (rdL_le _ j) (by omega)
      clear q2 O1 Q1 B2 B3 ba HZ
      by_cases hcd : cmS x.y p j = 0
      ·have E0 : Hid (rdL (fun j => cmS x.y p j) (j + 1) = rdL (fun j => cmS x.y p j) j ++ [(j : Int)]) := rdL_hit hcd
       rw [hcd]
       clear hcd
       go_wp2_with (at_builtin; refine append_oneN (w2.alloc (oQ4 pa1 x.y.pn pc1 sa1 x.y.sn sc1 wa1 x.y.wn wc1 ha1 x.y.hn hc1)) (by simp) rfl _ _ rfl (w.heap.size + 1) u5 (rdL (fun j => cmS x.y p j) j) rfl F3.out.1 j rfl HLn.out F3.out.2.2.ltM ?_; intro v5 w5 o5 b5; have F5 : Hid (OwnI w5 (w.heap.size + 1) v5 (rdL (fun j => cmS x.y p j) j ++ [(j : Int)]) /\ Below w.heap.size w w5 /\ BoxC w5 w.heap.size (.slice x.pa x.pn x.pc) (.slice x.sa x.sn x.sc) (.slice x.wa x.wn x.wc) (.slice x.ha x.hn x.hc)) := ⟨o5, F3.out.2.1.trans (b5.mono (Nat.le_succ _)), box_low b5 F3.out.2.2⟩; clear o5 b5)
       go_roundw
       case rel => exact ⟨j + 1, by omega, by go_num, by rw [E0.out]; exact F5.out.1, F5.out.2.1, F5.out.2.2⟩
       case measure => simp [intOf]; omega
      ·have E0 : Hid (rdL (fun j => cmS x.y p j) (j + 1) = rdL (fun j => cmS x.y p j) j) := rdL_not hcd
       have t0 : (cmS x.y p j == 0) = false := by simpa using hcd
       generalize cmS x.y p (j : Int) = cd at t0
       go_wp2
       go_roundw
       case rel => exact ⟨j + 1, by omega, by go_num, by rw [E0.out]; exact F3.out.1, F3.out.2.1, F3.out.2.2⟩
       case measure => simp [intOf]; omega
     ·have hjm : j = (1 : Nat) := by omega
      subst hjm
      go_wp2
      go_ret
      exact ⟨_, rfl, by rw [HE.out]; exact HZ.out.1.mono (Nat.le_succ _), HZ.out.2.1⟩
   ·go_wp2_with fail
    go_loopw [5, 9] (fun o i wr => ∃ j : Nat, j <= (1 : Nat) /\ i = .int .i64 j /\ Hid (OwnI wr (w.heap.size + 1) o (rdL (fun j => cmS x.y p j) j) /\ Below w.heap.size w wr /\ BoxC wr w.heap.size (.slice x.pa x.pn x.pc) (.slice x.sa x.sn x.sc) (.slice x.wa x.wn x.wc) (.slice x.ha x.hn x.hc))) (fun _ i _ => (1 : Nat) - (intOf i).toNat)
    case atStart => exact ⟨0, Nat.zero_le _, rfl, OC.out, BC.out, NC.out⟩
    case round =>
     obtain ⟨j, hj, rfl, HZ⟩ := hrel
     clear k0 k1 k2 kf OC BC NC
     have hj4 : (j : Int) <= 4 := by omega
     by_cases hlt : j < (1 : Nat)
     ·have hlt' : (j : Int) < ((1 : Nat) : Int) := by omega
      obtain ⟨b0, b1, b2, b3⟩ := HZ.out.2.2
      go_wp2_with fail
      refine (l4Copy_any x wr (HG.out.below HZ.out.2.1) HL.out).mono ?_
      rintro e w1 ⟨v1, rfl, o1, q1⟩
      obtain ⟨pa1, pc1, sa1, sc1, wa1, wc1, ha1, hc1, rfl⟩ := o1.formJ
      have O1 : Hid (OwnSys true w1 wr.heap.size x.y (sysV pa1 x.y.pn pc1 sa1 x.y.sn sc1 wa1 x.y.wn wc1 ha1 x.y.hn hc1)) := o1
      have Q1 : Hid (Below wr.heap.size wr w1) := q1
      clear o1 q1 b0 b1 b2 b3
      go_wp2_with fail
      refine (l5Step_code x.y p j w1 wr.heap.size _ O1.out hp HO.out).mono ?_
      rintro e w2 ⟨rfl, q2⟩
      have B2 : Below wr.heap.size wr w2 := Q1.out.trans q2
      have ba := zQ w2 (oQ4 pa1 x.y.pn pc1 sa1 x.y.sn sc1 wa1 x.y.wn wc1 ha1 x.y.hn hc1)
      have B3 : Below wr.heap.size wr (w2.alloc (oQ4 pa1 x.y.pn pc1 sa1 x.y.sn sc1 wa1 x.y.wn wc1 ha1 x.y.hn hc1)) := B2.trans (ba.mono B2.size)
      have F3 : Hid (OwnI (w2.alloc (oQ4 pa1 x.y.pn pc1 sa1 x.y.sn sc1 wa1 x.y.wn wc1 ha1 x.y.hn hc1)) (w.heap.size + 1) u5 (rdL (fun j => cmS x.y p j) j) /\ Below w.heap.size w (w2.alloc (oQ4 pa1 x.y.pn pc1 sa1 x.y.sn sc1 wa1 x.y.wn wc1 ha1 x.y.hn hc1)) /\ BoxC (w2.alloc (oQ4 pa1 x.y.pn pc1 sa1 x.y.sn sc1 wa1 x.y.wn wc1 ha1 x.y.hn hc1)) w.heap.size (.slice x.pa x.pn x.pc) (.slice x.sa x.sn x.sc) (.slice x.wa x.wn x.wc) (.slice x.ha x.hn x.hc)) := ⟨HZ.out.1.below B3, HZ.out.2.1.trans (B3.mono HZ.out.2.1.size), HZ.out.2.2.below B3⟩
      have HLn : Hid ((rdL (fun j => cmS x.y p j) j).length <= 1048576) := zP (rdL_le _ j) (by omega)
      clear q2 O1 Q1 B2 B3 ba HZ
      by_cases hcd : cmS x.y p j = 0
      ·have E0 : Hid (rdL (fun j => cmS x.y p j) (j + 1) = rdL (fun j => cmS x.y p j) j ++ [(j : Int)]) := rdL_hit hcd
       rw [hcd]
       clear hcd
       go_wp2_with (at_builtin; refine append_oneN (w2.alloc (oQ4 pa1 x.y.pn pc1 sa1 x.y.sn sc1 wa1 x.y.wn wc1 ha1 x.y.hn hc1)) (by simp) rfl _ _ rfl (w.heap.size + 1) u5 (rdL (fun j => cmS x.y p j) j) rfl F3.out.1 j rfl HLn.out F3.out.2.2.ltM ?_; intro v5 w5 o5 b5; have F5 : Hid (OwnI w5 (w.heap.size + 1) v5 (rdL (fun j => cmS x.y p j) j ++ [(j : Int)]) /\ Below w.heap.size w w5 /\ BoxC w5 w.heap.size (.slice x.pa x.pn x.pc) (.slice x.sa x.sn x.sc) (.slice x.wa x.wn x.wc) (.slice x.ha x.hn x.hc)) := ⟨o5, F3.out.2.1.trans (b5.mono (Nat.le_succ _)), box_low b5 F3.out.2.2⟩; clear o5 b5)
       go_roundw
       case rel => exact ⟨j + 1, by omega, by go_num, by rw [E0.out]; exact F5.out.1, F5.out.2.1, F5.out.2.2⟩
       case measure => simp [intOf]; omega
      ·have E0 : Hid (rdL (fun j => cmS x.y p j) (j + 1) = rdL (fun j => cmS x.y p j) j) := rdL_not hcd
       have t0 : (cmS x.y p j == 0) = false := by simpa using hcd
       generalize cmS x.y p (j : Int) = cd at t0
       go_wp2
       go_roundw
       case rel => exact ⟨j + 1, by omega, by go_num, by rw [E0.out]; exact F3.out.1, F3.out.2.1, F3.out.2.2⟩
       case measure => simp [intOf]; omega
     ·have hjm : j = (1 : Nat) := by omega
      subst hjm
      go_wp2
      go_ret
      exact ⟨_, rfl, by rw [HE.out]; exact HZ.out.1.mono (Nat.le_succ _), HZ.out.2.1⟩
def flatE (E : Nat -> E3) : Nat -> List Value
 | 0 => []
 | n + 1 => flatE E n ++ [.int .i64 (E n).k, .int .i64 (E n).q, .int .i64 (E n).v]
def DrawnE (w : World) (e : Ending) (w' : World) : Prop := ∃ gl n gc ge k ec G E, e = .returned (.tuple #[.slice (some ⟨gl, 0, none⟩) n gc, .slice (some ⟨ge, 0, none⟩) k ec]) /\ (n <= 31 /\ k <= 25 /\ k <= ec) /\ (gl < w'.heap.size /\ InsAt w' gl 0 n G) /\ (ge < w'.heap.size /\ EvAt w' ge 0 k E) /\ Below w.heap.size w w'
theorem sameInts_same (a0 a1 : Option Addr) (c0 c1 : Nat) (xs : List Int) (w : World) (hlen : xs.length <= 1048576) (h0 : Sl w a0 xs) (h1 : Sl w a1 xs) :
  Calls Tryz.prog 48 #[.slice a0 xs.length c0, .slice a1 xs.length c1] w fun e w' => e = .returned (.bool true) /\ Below w.heap.size w w' := by
 have hl' : (xs.length : Int) <= 1048576 := by omega
 have H0 : Hid (Sl w a0 xs) := h0
 have H1 : Hid (Sl w a1 xs) := h1
 clear h0 h1
 go_enter Tryz.func48, Tryz.ntmps48
 go_wp2_with fail
 go_loopw [5] (fun i wr => ∃ k : Nat, k <= xs.length /\ i = .int .i64 k /\ Below w.heap.size w wr) (fun i _ => xs.length - (intOf i).toNat)
 case atStart => exact ⟨0, Nat.zero_le _, rfl, Below.refl _ _⟩
 case round =>
  obtain ⟨k, hk, rfl, hbw⟩ := hrel
  by_cases hlt : k < xs.length
  ·obtain ⟨b, off, rfl, hbl, ck⟩ := (H0.out.below hbw).at hlt
   obtain ⟨b', off', rfl, hbl', ck'⟩ := (H1.out.below hbw).at hlt
   have hlt' : (k : Int) < (xs.length : Int) := by omega
   go_wp2_with fail
   go_quiet (fail)
   go_wp2
   go_roundw
   case rel => exact ⟨k + 1, by omega, by go_num, yC hbw _⟩
   case measure => simp [intOf]; omega
  ·go_wp2
   go_ret
   exact ⟨rfl, hbw⟩
theorem big_any (a0 : Option Addr) (len cap : Nat) (w : World) :
  Calls Tryz.prog 9 #[.slice a0 len cap] w fun e w' => e = .returned (.bool (decide ((1048576 : Int) < len))) /\ w' = w := by
 go_enter Tryz.func9, Tryz.ntmps9
 go_wp2
 go_ret
 exact ⟨rfl, rfl⟩
theorem open_bytes {H : Type} {enc : TypeId × Value -> H} {w : World} {a0 : Option Addr} {len cap : Nat} {d : DataW H} {p : List MemPlace}
  (h : DataW.Trod enc Tryz.prog w 0 (fun _ => true) true 22 (.slice a0 len cap) d p) : len <= maxLen /\ BytesAt w w.heap.size a0 len := by
 obtain ⟨fuel, hf⟩ := h
 rcases open_ints Tryz.underlying22 Tryz.underlying5 (by kernel_rfl) hf with ⟨hcs, _⟩ | ⟨x, l, c, zs, hcs, _, hl, hm, hz, _, hcell, hwz⟩
 ·simp [Value.cells] at hcs
  obtain ⟨_, rfl, _⟩ := hcs
  exact ⟨Nat.zero_le _, .inl rfl⟩
 ·simp [Value.cells] at hcs
  obtain ⟨rfl, rfl, rfl⟩ := hcs
  refine ⟨zP hl hm, ?_⟩
  by_cases h0 : len = 0
  ·exact .inl h0
  right
  have hz' : zs.length = cap := by simpa using hz
  obtain ⟨b, off, rfl, hc⟩ := ints_at hcell (by omega)
  refine ⟨b, off, rfl, cell_lt (hc 0 (by omega)), fun j hj => ⟨zs.getD j 0, hc j (by omega), ?_⟩⟩
  have hmem : zs.getD j 0 ∈ zs := by
   rw [List.getD_eq_getElem?_getD, List.getElem?_eq_getElem (by omega)]
   exact List.getElem_mem _
  exact bounds_u8 (hwz _ hmem)
theorem sameState_same (p code : Int) (ra oa ra' oa' : Option Addr) (rc oc rc' oc' : Nat) (rs os : List Int) (w : World) (hr : rs.length <= 1048576) (ho : os.length <= 1048576) (h1 : Sl w ra rs) (h2 : Sl w oa os) (h1' : Sl w ra' rs) (h2' : Sl w oa' os) :
  Calls Tryz.prog 15 #[stV p ra rs.length rc oa os.length oc code, stV p ra' rs.length rc' oa' os.length oc' code] w fun e w' => e = .returned (.bool true) /\ Below w.heap.size w w' := by
 have H1 : Hid (Sl w ra rs) := h1
 have H2 : Hid (Sl w oa os) := h2
 have H1' : Hid (Sl w ra' rs) := h1'
 have H2' : Hid (Sl w oa' os) := h2'
 clear h1 h2 h1' h2'
 go_enter Tryz.func15, Tryz.ntmps15
 go_wp2_with fail
 refine (sameInts_same ra ra' rc rc' rs _ hr (H1.out.below (by go_grown)) (H1'.out.below (by go_grown))).mono ?_
 rintro e w1 ⟨rfl, b1⟩
 have B1 : Hid (Below w.heap.size w w1) := below_up (by go_grown) b1 (by simp; omega)
 obtain ⟨hc1, hf1⟩ := bcell b1
 have l0 : w.heap.size < w.heap.size + 1 + 1 := by omega
 have l1 : w.heap.size + 1 < w.heap.size + 1 + 1 := by omega
 have k0 : w1.cell? ⟨w.heap.size, 2, none⟩ = some (.slice oa os.length oc) := (hc1 w.heap.size 2 (by simp; omega)).trans ((zS _ _ (by simp)).trans (zW _ _ _ 2 rfl))
 have k1 : w1.cell? ⟨w.heap.size + 1, 2, none⟩ = some (.slice oa' os.length oc') := (hc1 (w.heap.size + 1) 2 (by simp)).trans (new_cellB _ _ _ 2 (by simp))
 clear b1 hc1 hf1
 go_wp2_with fail
 refine (sameInts_same oa oa' oc oc' os _ ho (H2.out.below B1.out) (H2'.out.below B1.out)).mono ?_
 rintro e w2 ⟨rfl, b2⟩
 have B2 : Hid (Below w.heap.size w w2) := B1.out.trans (b2.mono B1.out.size)
 clear b2
 go_wp2
 go_ret
 exact ⟨rfl, B2.out⟩
end Go.Proofs.YtcplnkhdclcgfaaGreatDoor
