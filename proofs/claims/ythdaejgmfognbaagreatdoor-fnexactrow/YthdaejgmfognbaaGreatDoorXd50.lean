/- Proved: called with whatever system, the program's Row answers as the model's Row; it writes into no argument, and its answer is its own. One condition, tied to the program's text: errors.errorType holds what its text lays. -/
import Derived.Test.YthdaejgmfognbaaGreatDoorXd0
import Derived.Test.YthdaejgmfognbaaGreatDoorXd47
import Derived.Test.YthdaejgmfognbaaGreatDoorXd39
import Derived.Test.YthdaejgmfognbaaGreatDoorXd44
import Derived.Test.YthdaejgmfognbaaGreatDoorXd49
import Derived.Test.YthdaejgmfognbaaGreatDoorXd41
import Derived.Test.YthdaejgmfognbaaGreatDoorCards
import Derived.SevenTiedAt
namespace Go.Proofs.YthdaejgmfognbaaGreatDoor
set_option maxRecDepth 100000
set_option maxHeartbeats 4000000
open Go.ChangeShapes Go.WideShapes Go.ChangeAt Go.RowKit Go.Deep Go.Sort
structure Rm (w : World) (x : SysIn) (g : Nat) (v : Value) (k m : Nat) (wr : World) : Prop where
 rk : Rk w x g (x.y.hs.gr k) wr
 ow : OwR wr (w.heap.size + 1) v m (rwH x.y)
 ne : v.ownBlock ≠ some g
 ls : ∀ j, j < k -> ∃ p, x.y.hs.Least (x.y.hs.gr j) p
theorem Rm.below {w : World} {x : SysIn} {g k m : Nat} {v : Value} {wr w' : World} (h : Rm w x g v k m wr) (hb : Below wr.heap.size wr w') : Rm w x g v k m w' := ⟨h.rk.below hb, h.ow.below hb, h.ne, h.ls⟩
theorem rwH_at {y : Sy} {k p : Nat} (h : y.hs.Least (y.hs.gr k) p) : rwH y k = ⟨(p : Nat), (y.hs.gr k p : Nat)⟩ := by
 show tnH y.hs.gf k = _
 unfold tnH
 rw [(Hs.gr_next h).2, Hs.gr_tn]
theorem Rm.told {w : World} {x : SysIn} {g k : Nat} {v v' : Value} {wr w' : World} (h : Rm w x g v k k wr) (o : OwR w' (w.heap.size + 1) v' (k + 1) (rwH x.y)) (gb : wr.grownBy w' v.ownBlock) (hv : ∀ j, v'.ownBlock = some j -> v.ownBlock = some j \/ wr.heap.size <= j) : Rm w x g v' k (k + 1) w' := by
 have hg := h.rk.lt
 have hs : w.heap.size < wr.heap.size := by omega
 refine ⟨⟨h.rk.be.trans (Below.grown (Below.refl _ _) gb h.rk.be.size fun j hj => by have := (h.ow.lt j hj).1; omega), h.rk.bs.blkK (gb.block _ hs fun e => by have := (h.ow.lt _ e.symm).1; omega), ?_⟩, o, fun e => ?_, h.ls⟩
 ·exact h.rk.ow.blk fun j hj => by
   have hj' : g = j := by cases hj; rfl
   subst hj'
   exact gb.block _ hg.2 fun e => h.ne e.symm
 ·rcases hv _ e with a | a
  ·exact h.ne a
  ·omega
theorem Rm.put {w : World} {x : SysIn} {g k p : Nat} {v : Value} {wr : World} (h : Rm w x g v k (k + 1) wr) (hp : x.y.hs.Least (x.y.hs.gr k) p) (hpn : p < x.pn) : Rm w x g v (k + 1) (k + 1) (wr.setCell ⟨g, p, none⟩ (.int .i64 ((x.y.hs.gr k p : Int) + 1))) := by
 refine ⟨?_, h.ow.ofBlock fun j hj => ?_, h.ne, fun j hj => ?_⟩
 ·rw [(Hs.gr_next hp).1]
  exact h.rk.put hpn
 ·exact (Touch.of_set (P := fun b => b = g) wr (a := ⟨g, p, none⟩) rfl _).block j (h.ow.lt j hj).2 (fun e => h.ne (by rw [hj, show j = g from e]))
 ·by_cases e : j = k
  ·subst e
   exact ⟨p, hp⟩
  ·exact h.ls j (by omega)
theorem specRow_any (x : SysIn) (w : World) (hG : SysG w x) (hL : x.Len) (hcap : ∀ i, i < x.hn -> x.hL i <= x.hC i) :
  Calls Tryz.prog 19 #[x.v] w fun e w' => ∃ v, e = .returned v /\ OwR w' w.heap.size v (rwN x.y) (rwH x.y) /\ Below w.heap.size w w' := by
 have HSo : Hid (∀ wx, Below w.heap.size w wx -> Calls Tryz.prog 20 #[x.v] wx fun e w' => e = .returned (.bool x.y.okB) /\ Below wx.heap.size wx w') := fun wx hb => specSysOk_any x wx (hG.below hb) hL hcap
 have HCn : Hid (x.y.Ok -> ∀ g p d wr, Rk w x g d wr -> (∀ i, d i <= x.y.hL i) -> p < x.pn -> Calls Tryz.prog 56 #[x.v, .slice (some ⟨g, 0, none⟩) x.pn x.pn, .int .i64 (p : Nat)] wr fun e w' => e = .returned (.bool (qB (x.y.hs.Can d p))) /\ Below wr.heap.size wr w') := fun hO g p d wr hr hd hp => l13Can_any x g x.pn p d wr (hG.below hr.be) hcap hO hr.ow.slOf hd hp
 have B0 : Hid (Below w.heap.size w ((w.alloc (oQ4 x.pa x.pn x.pc x.sa x.sn x.sc x.wa x.wn x.wc x.ha x.hn x.hc)).alloc (.cells #[] 43)) /\ BoxC ((w.alloc (oQ4 x.pa x.pn x.pc x.sa x.sn x.sc x.wa x.wn x.wc x.ha x.hn x.hc)).alloc (.cells #[] 43)) w.heap.size (.slice x.pa x.pn x.pc) (.slice x.sa x.sn x.sc) (.slice x.wa x.wn x.wc) (.slice x.ha x.hn x.hc) /\ OwR ((w.alloc (oQ4 x.pa x.pn x.pc x.sa x.sn x.sc x.wa x.wn x.wc x.ha x.hn x.hc)).alloc (.cells #[] 43)) (w.heap.size + 1) (.slice (some ⟨w.heap.size + 1, 0, none⟩) 0 0) 0 (rwH x.y)) := by
  refine ⟨(zS _ _).trans ((zS _ _).mono (by simp)), (BoxC.new w _ _ _ _ _).below (zS _ _), ?_⟩
  have h9 := OwR.empty (w.alloc (oQ4 x.pa x.pn x.pc x.sa x.sn x.sc x.wa x.wn x.wc x.ha x.hn x.hc)) (rwH x.y)
  rw [World.size_alloc] at h9
  exact h9
 clear hG hL hcap
 go_enter Tryz.func19, Tryz.ntmps19
 go_upto_region 2 with fail
 generalize (w.alloc (oQ4 x.pa x.pn x.pc x.sa x.sn x.sc x.wa x.wn x.wc x.ha x.hn x.hc)).alloc (.cells #[] 43) = W0 at *
 obtain ⟨k0, k1, k2, k3⟩ := B0.out.2.1
 go_wp2_with fail
 clear k0 k1 k2 k3
 refine (HSo.out W0 B0.out.1).mono ?_
 rintro e w2 ⟨rfl, b2⟩
 have B2 : Hid (Below w.heap.size w w2 /\ BoxC w2 w.heap.size (.slice x.pa x.pn x.pc) (.slice x.sa x.sn x.sc) (.slice x.wa x.wn x.wc) (.slice x.ha x.hn x.hc) /\ OwR w2 (w.heap.size + 1) (.slice (some ⟨w.heap.size + 1, 0, none⟩) 0 0) 0 (rwH x.y)) := ⟨B0.out.1.trans (b2.mono B0.out.1.size), B0.out.2.1.below b2, B0.out.2.2.below b2⟩
 clear b2 B0 HSo
 by_cases hok : x.y.okB = true
 case neg =>
  have hok' : x.y.okB = false := by simpa using hok
  have HN : Hid (rwN x.y = 0) := if_neg hok
  rw [hok']
  have R4 : Hid (OwR w2 w.heap.size (.slice (some ⟨w.heap.size + 1, 0, none⟩) 0 0) (rwN x.y) (rwH x.y) /\ Below w.heap.size w w2) := ⟨by rw [HN.out]; exact B2.out.2.2.mono (by omega), B2.out.1⟩
  clear B2 HN
  go_wp2
  go_ret
  exact ⟨_, rfl, R4.out⟩
 rw [hok]
 have HO : Hid (x.y.Ok) := Sy.ok_of hok
 have HRN : Hid (rwN x.y = x.y.hs.tot) := if_pos hok
 have hhn : x.hn = x.pn := HO.out.cn.2.2.1
 have H4 : Hid (x.pn <= 4 /\ 1 <= x.pn) := ⟨HO.out.cn.1.2, HO.out.cn.1.1⟩
 have h4 : (x.pn : Int) <= 4 := by have := H4.out.1; omega
 have HP : Hid (x.y.hs.Peers /\ (∀ i, i < x.y.hs.n -> x.y.hs.l i <= 200)) := ⟨fun p hp i hi => HO.out.evq hp hi, fun i hi => HO.out.hl200 hi⟩
 have hto : x.y.hs.tot <= 800 := Hs.tot_le H4.out.1 HP.out.2
 have hmk := run_make_int x.pn (by have := H4.out.1; omega)
 have T0 : Hid (Rm w x w2.heap.size (.slice (some ⟨w.heap.size + 1, 0, none⟩) 0 0) 0 0 (w2.alloc (.cells (madeCells #[.int .i64 0] x.pn) 3))) := by
  have h9 := made_own w2 x.pn (by have := H4.out.1; omega)
  rw [<- dL_zero] at h9
  refine ⟨⟨B2.out.1.trans ((zS _ _).mono B2.out.1.size), B2.out.2.1.below (zS _ _), h9.mono (zJ _ _ B2.out.2.1.1)⟩, B2.out.2.2.below (zS _ _), fun e => ?_, fun j hj => absurd hj (Nat.not_lt_zero _)⟩
  have h8 : w.heap.size + 1 < w2.heap.size := (B2.out.2.2.lt _ rfl).2
  have e9 : w.heap.size + 1 = w2.heap.size := by simpa [Value.ownBlock] using e
  omega
 obtain ⟨-, -, -, k3⟩ := B2.out.2.1
 rw [hhn] at k3
 clear hok hhn
 go_upto_region 5 with fail
 clear k3 hmk B2
 generalize w2.alloc (.cells (madeCells #[.int .i64 0] x.pn) 3) = w3 at *
 generalize w2.heap.size = g at *
 go_wp2_with fail
 go_loopg [3, 5] (x.y.hs.tot * 5 + x.pn) (fun gh v i wr => ∃ (k p : Nat) (ga : Nat) (gc : Nat), gh = (x.y.hs.tot - k) * 5 + (x.pn - p) /\ p <= x.pn /\ v = .slice (some ⟨ga, 0, none⟩) k gc /\ i = .int .i64 (p : Nat) /\ Hid (Rm w x g (.slice (some ⟨ga, 0, none⟩) k gc) k k wr /\ ∀ j, j < p -> ¬ x.y.hs.Can (x.y.hs.gr k) j))
 case atStart => exact ⟨0, 0, _, _, by omega, Nat.zero_le _, by with_reducible rfl, rfl, T0.out, fun j hj => absurd hj (Nat.not_lt_zero _)⟩
 case round =>
  clear T0
  obtain ⟨k, p, ga, gc, hgk, hpl, rfl, rfl, HT⟩ := hrel
  have HGk : Hid (gk = (x.y.hs.tot - k) * 5 + (x.pn - p)) := hgk
  clear hgk
  have HKt : Hid (k <= x.y.hs.tot) := Hs.gr_le HT.out.1.ls
  by_cases hpt : p < x.pn
  case neg =>
   have HKe : Hid (k = x.y.hs.tot) := Hs.gr_end HT.out.1.ls HP.out.1 HO.out.ro fun q hq => HT.out.2 q (by have hq : q < x.pn := hq; omega)
   have R5 : Hid (OwR wr w.heap.size (.slice (some ⟨ga, 0, none⟩) k gc) (rwN x.y) (rwH x.y) /\ Below w.heap.size w wr) := ⟨by rw [HRN.out, <- HKe.out]; exact HT.out.1.ow.mono (by omega), HT.out.1.rk.be⟩
   clear HT HKe HKt HRN HGk
   go_wp2
   go_ret
   exact ⟨_, rfl, R5.out⟩
  have hpt' : (p : Int) < (x.pn : Int) := by omega
  obtain ⟨k0, k1, k2, k3⟩ := HT.out.1.rk.bs
  go_wp2_with fail
  clear k0 k1 k2 k3
  refine (HCn.out HO.out g p _ _ HT.out.1.rk (Hs.gr_sum HT.out.1.ls).2.le hpt).mono ?_
  rintro e w5 ⟨rfl, b5⟩
  have T5 : Hid (Rm w x g (.slice (some ⟨ga, 0, none⟩) k gc) k k w5 /\ ∀ j, j < p -> ¬ x.y.hs.Can (x.y.hs.gr k) j) := ⟨HT.out.1.below b5, HT.out.2⟩
  clear b5 HT
  by_cases hcn : x.y.hs.Can (x.y.hs.gr k) p
  case neg =>
   rw [qB_false hcn]
   have T6 : Hid (Rm w x g (.slice (some ⟨ga, 0, none⟩) k gc) k k w5 ∧ ∀ j, j < p + 1 → ¬ x.y.hs.Can (x.y.hs.gr k) j) := ⟨T5.out.1, fun j hj => by
    by_cases e : j = p
    ·subst e
     exact hcn
    ·exact T5.out.2 j (by omega)⟩
   clear hcn T5
   go_wp2
   go_roundg ((x.y.hs.tot - k) * 5 + (x.pn - (p + 1)))
   case measure => have := HGk.out; omega
   case rel => exact ⟨k, p + 1, ga, gc, rfl, by omega, by with_reducible rfl, by go_num, T6.out⟩
  rw [qB_true hcn]
  have HLe : Hid (x.y.hs.Least (x.y.hs.gr k) p) := ⟨hpt, hcn, T5.out.2⟩
  have HB : Hid (w.heap.size + 1 <= w5.heap.size /\ k <= 1000000) := ⟨by have := T5.out.1.rk.lt; omega, by have := HKt.out; omega⟩
  have hdk : ((x.y.hs.gr k p : Nat) : Int) <= 200 := by
   have h8 := (Hs.gr_sum T5.out.1.ls).2.le p
   have h9 := HP.out.2 p hpt
   omega
  have sd := (T5.out.1.rk.cell hpt).1
  clear hcn
  go_upto_region 10 with (at_builtin; refine append_who w5 rfl _ _ rfl (w.heap.size + 1) (.slice (some ⟨ga, 0, none⟩) k gc) k (rwH x.y) rfl T5.out.1.ow (p : Nat) (x.y.hs.gr k p : Nat) (rwH_at HLe.out) rfl HB.out.2 HB.out.1 ?_; intro v' w6 o6 g6 h6; have T6 : Hid (Rm w x g v' k (k + 1) w6) := T5.out.1.told o6 g6 h6; obtain ⟨ga6, gc6, rfl, -, -, -, -⟩ := o6.form; clear o6 g6 h6)
  clear sd T5 HB
  obtain ⟨sd, sf⟩ := T6.out.rk.cell hpt
  have T7 : Hid (Rm w x g (.slice (some ⟨ga6, 0, none⟩) (k + 1) gc6) (k + 1) (k + 1) (w6.setCell ⟨g, p, none⟩ (.int .i64 ((x.y.hs.gr k p : Int) + 1))) /\ k + 1 <= x.y.hs.tot) := by
   have h9 := T6.out.put HLe.out hpt
   exact ⟨h9, Hs.gr_le h9.ls⟩
  clear T6 HLe
  go_wp2
  go_roundg ((x.y.hs.tot - (k + 1)) * 5 + x.pn)
  case measure => have := HGk.out; have := T7.out.2; have := H4.out; omega
  case rel => exact ⟨k + 1, 0, ga6, gc6, by omega, Nat.zero_le _, by with_reducible rfl, rfl, T7.out.1, fun j hj => absurd hj (Nat.not_lt_zero _)⟩
theorem rwN_le (y : Sy) : rwN y <= 800 := by
 unfold rwN
 split
 next h =>
  have hO := Sy.ok_of h
  exact Hs.tot_le hO.cn.1.2 fun i hi => hO.hl200 hi
 next => omega
theorem OwR.room {w : World} {B g c n : Nat} {h : Nat -> Wo2} (o : OwR w B (.slice (some ⟨g, 0, none⟩) n c) n h) : RoomWo w g n /\ WoAt w g 0 n h /\ g < w.heap.size := by
 obtain ⟨g', c', e, -, h2, h3, h4⟩ := o.form
 simp only [Value.slice.injEq, Option.some.injEq, Addr.mk.injEq, and_true, true_and] at e
 obtain ⟨rfl, -⟩ := e
 exact ⟨RoomWo.of_row h3 h4, h3, h2⟩
theorem eqWhoS_own (g1 g2 c1 c2 n : Nat) (h : Nat -> Wo2) (B1 B2 : Nat) (w : World) (hn : n <= 1048576) (o1 : OwR w B1 (.slice (some ⟨g1, 0, none⟩) n c1) n h) (o2 : OwR w B2 (.slice (some ⟨g2, 0, none⟩) n c2) n h) :
  Calls Tryz.prog 31 #[.slice (some ⟨g1, 0, none⟩) n c1, .slice (some ⟨g2, 0, none⟩) n c2] w fun e w' => e = .returned (.bool true) /\ Below w.heap.size w w' := eqWhoS_same g1 g2 n c1 c2 h w hn o1.room.2.2 o2.room.2.2 o1.room.2.1 o2.room.2.1
theorem rowLaw_small (x : SysIn) (W : World) (hs : x.size <= 1048576) (hA : x.Ok W) (hV : W.cell? ⟨0, 0, none⟩ = some (.iface 266 (.agg #[.pointer (some ⟨1, 211, none⟩)]))) :
  Calls Tryz.prog 7 #[sysV x.pa x.pn x.pc x.sa x.sn x.sc x.wa x.wn x.wc x.ha x.hn x.hc] W fun e w' => e = .returned (.bool true) /\ Below W.heap.size W w' := by
 have HS : Hid (x.size <= 1048576) := hs
 have HA : Hid (x.Ok W) := hA
 have HV : Hid (W.cell? ⟨0, 0, none⟩ = some (.iface 266 (.agg #[.pointer (some ⟨1, 211, none⟩)]))) := hV
 have HV0 : Hid (0 < W.heap.size) := zJ W _ hV
 have hX : rwN x.y <= 1048576 := zO (rwN_le _) (by omega)
 obtain ⟨N, hN⟩ : ∃ N, rwN x.y = N := ⟨_, rfl⟩
 obtain ⟨H, hH⟩ : ∃ H, rwH x.y = H := ⟨_, rfl⟩
 rw [hN] at hX
 have HN : Hid (rwN x.y = N /\ rwH x.y = H) := ⟨hN, hH⟩
 have hX' : (N : Int) <= 1048576 := by omega
 have hsz : ¬ (1048576 - (x.size : Int) < 0) := by omega
 have X0 : Hid (Px W x (W.alloc (.cells #[.slice x.pa x.pn x.pc, .slice x.sa x.sn x.sc, .slice x.wa x.wn x.wc, .slice x.ha x.hn x.hc] 58))) := ⟨below_allocS _ _, BoxC.new W _ _ _ _ _, by simp⟩
 clear hN hH hs hA hV
 go_enter Tryz.func7, Tryz.ntmps7
 go_wp2_with fail
 generalize W.alloc (.cells #[.slice x.pa x.pn x.pc, .slice x.sa x.sn x.sc, .slice x.wa x.wn x.wc, .slice x.ha x.hn x.hc] 58) = wA at *
 refine (szSys_small x wA (HA.out.row.below X0.out.be) HS.out).mono ?_
 rintro e w0 ⟨rfl, b0⟩
 have X1 : Hid (Px W x w0) := X0.out.below b0
 clear b0 X0
 obtain ⟨-, ⟨p0, p1, p2, p3⟩, lt⟩ := X1.out
 go_wp2_with fail
 clear p0 p1 p2 p3 lt
 refine (toSys_any x W w0 HS.out HA.out X1.out.be).mono ?_
 rintro e w1 ⟨v1, rfl, o1, b1⟩
 obtain ⟨x1, rfl, g1, y1, cp1⟩ := o1.g2
 have O1 : Hid (SysG w1 x1 /\ x1.y = x.y /\ ∀ i, i < x1.hn -> x1.hL i <= x1.hC i) := ⟨g1, y1, cp1⟩
 have X2 : Hid (Px W x w1) := X1.out.below b1
 clear b1 X1 o1 g1 y1 cp1
 go_wp2_with fail
 refine (specRow_any x1 w1 O1.out.1 (SysIn.len_of HS.out O1.out.2.1) O1.out.2.2).mono ?_
 rintro e w2 ⟨u2, rfl, o2, b2⟩
 rw [O1.out.2.1, HN.out.1, HN.out.2] at o2
 obtain ⟨aw, cw, rfl, -, -, -, -⟩ := o2.form
 have V2 : Hid (OwR w2 w1.heap.size (.slice (some ⟨aw, 0, none⟩) N cw) N H) := o2
 have X3 : Hid (Px W x w2) := X2.out.below b2
 clear b2 X2 o2 O1
 obtain ⟨-, ⟨p0, p1, p2, p3⟩, lt⟩ := X3.out
 go_wp2_with fail
 clear p0 p1 p2 p3 lt
 refine (toSys_any x W w2 HS.out HA.out X3.out.be).mono ?_
 rintro e w3 ⟨v3, rfl, o3, b3⟩
 obtain ⟨x3, rfl, g3, y3, cp3⟩ := o3.g2
 have S3 : Hid (IsSys w3 w2.heap.size w3.heap.size x x3.v) := o3
 have V3 : Hid (OwR w3 w1.heap.size (.slice (some ⟨aw, 0, none⟩) N cw) N H) := V2.out.below b3
 have GW : Hid (∀ j, (Value.slice (some ⟨aw, 0, none⟩) N cw).ownBlock = some j -> j < w2.heap.size) := fun j hj => (V2.out.lt j hj).2
 have X4 : Hid (Px W x w3) := X3.out.below b3
 have LT : Hid (W.heap.size < w2.heap.size /\ w2.heap.size <= w3.heap.size) := ⟨X3.out.lt, b3.size⟩
 have ba : Below w3.heap.size w3 (w3.alloc (oQ4 x3.pa x3.pn x3.pc x3.sa x3.sn x3.sc x3.wa x3.wn x3.wc x3.ha x3.hn x3.hc)) := below_allocS _ _
 have Sa : Hid (IsSys (w3.alloc (oQ4 x3.pa x3.pn x3.pc x3.sa x3.sn x3.sc x3.wa x3.wn x3.wc x3.ha x3.hn x3.hc)) w2.heap.size w3.heap.size x x3.v) := S3.out.below ba (Nat.le_refl _)
 have Va : Hid (OwR (w3.alloc (oQ4 x3.pa x3.pn x3.pc x3.sa x3.sn x3.sc x3.wa x3.wn x3.wc x3.ha x3.hn x3.hc)) w1.heap.size (.slice (some ⟨aw, 0, none⟩) N cw) N H) := V3.out.below ba
 have Xa : Hid (Px W x (w3.alloc (oQ4 x3.pa x3.pn x3.pc x3.sa x3.sn x3.sc x3.wa x3.wn x3.wc x3.ha x3.hn x3.hc))) := X4.out.below ba
 have Ga : Hid (SysG (w3.alloc (oQ4 x3.pa x3.pn x3.pc x3.sa x3.sn x3.sc x3.wa x3.wn x3.wc x3.ha x3.hn x3.hc)) x3 /\ x3.y = x.y) := ⟨g3.below ba, y3⟩
 have Qa : Hid (BoxC (w3.alloc (oQ4 x3.pa x3.pn x3.pc x3.sa x3.sn x3.sc x3.wa x3.wn x3.wc x3.ha x3.hn x3.hc)) w3.heap.size (.slice x3.pa x3.pn x3.pc) (.slice x3.sa x3.sn x3.sc) (.slice x3.wa x3.wn x3.wc) (.slice x3.ha x3.hn x3.hc) /\ w3.heap.size < (w3.alloc (oQ4 x3.pa x3.pn x3.pc x3.sa x3.sn x3.sc x3.wa x3.wn x3.wc x3.ha x3.hn x3.hc)).heap.size) := ⟨BoxC.new w3 _ _ _ _ _, by simp⟩
 clear b3 X3 o3 V2 V3 X4 S3 ba g3 y3 cp3
 go_wp2_with fail
 generalize w3.alloc (oQ4 x3.pa x3.pn x3.pc x3.sa x3.sn x3.sc x3.wa x3.wn x3.wc x3.ha x3.hn x3.hc) = wB at *
 refine (implRow_any x3 wB Ga.out.1 (SysIn.len_of HS.out Ga.out.2) ((Xa.out.be.cell (p := ⟨0, 0, none⟩) HV0.out).trans HV.out)).mono ?_
 rintro e w4 ⟨u4, rfl, o4, b4⟩
 rw [Ga.out.2, HN.out.1, HN.out.2] at o4
 obtain ⟨ag, cg, rfl, -, -, -, -⟩ := o4.form
 have G4 : Hid (OwR w4 wB.heap.size (.slice (some ⟨ag, 0, none⟩) N cg) N H) := o4
 have GG : Hid (∀ j, (Value.slice (some ⟨ag, 0, none⟩) N cg).ownBlock = some j -> w3.heap.size < j) := fun j hj => zL Qa.out.2 (o4.lt j hj).1
 have V4 : Hid (OwR w4 w1.heap.size (.slice (some ⟨aw, 0, none⟩) N cw) N H) := Va.out.below b4
 have S4' : Hid (IsSys w4 w2.heap.size w3.heap.size x x3.v) := Sa.out.below b4 (Nat.le_of_lt Qa.out.2)
 have X5 : Hid (Px W x w4) := Xa.out.below b4
 have Q4 : Hid (BoxC w4 w3.heap.size (.slice x3.pa x3.pn x3.pc) (.slice x3.sa x3.sn x3.sc) (.slice x3.wa x3.wn x3.wc) (.slice x3.ha x3.hn x3.hc) /\ w3.heap.size < w4.heap.size) := ⟨Qa.out.1.below b4, zL Qa.out.2 b4.size⟩
 clear b4 Xa o4 Va Sa Qa Ga
 go_wp2_with fail
 refine (eqWhoS_own ag aw cg cw N H _ _ w4 hX G4.out V4.out).mono ?_
 rintro e w5 ⟨rfl, b5⟩
 have G5 : Hid (OwR w5 wB.heap.size (.slice (some ⟨ag, 0, none⟩) N cg) N H) := G4.out.below b5
 have V5 : Hid (OwR w5 w1.heap.size (.slice (some ⟨aw, 0, none⟩) N cw) N H) := V4.out.below b5
 have S5 : Hid (IsSys w5 w2.heap.size w3.heap.size x x3.v) := S4'.out.below b5 (by obtain ⟨_, _, _, _, _, _, _, _, _, _, _, q⟩ := S4'.out; exact q.hi.2.2.2.1)
 have X6 : Hid (Px W x w5) := X5.out.below b5
 have Q5 : Hid (BoxC w5 w3.heap.size (.slice x3.pa x3.pn x3.pc) (.slice x3.sa x3.sn x3.sc) (.slice x3.wa x3.wn x3.wc) (.slice x3.ha x3.hn x3.hc) /\ w3.heap.size < w5.heap.size) := ⟨Q4.out.1.below b5, zL Q4.out.2 b5.size⟩
 clear Q4
 clear b5 X5 G4 V4 S4'
 obtain ⟨-, ⟨p0, p1, p2, p3⟩, lt⟩ := X6.out
 obtain ⟨⟨q0, q1, q2, q3⟩, lq⟩ := Q5.out
 go_wp2_with fail
 first | (go_region_with (first | (go_at_call 30; refine (toSys_any x W _ HS.out HA.out (by exact X6.out.be.drew)).mono ?_; rintro e w6 ⟨v6, rfl, o6, b6⟩; have q6 : Below w5.heap.size w5 w6 := (Below.refl w5.heap.size w5).drew.trans b6; have T6 : Hid (∃ l, IsSys w6 l w6.heap.size x v6) := ⟨_, o6⟩; obtain ⟨r0, r1, r2, r3⟩ := Q5.out.1.below q6; have Q6 : Hid (Below w5.heap.size w5 w6) := q6; clear o6 b6 q6) | (go_at_call 32; refine (eqSys_same x w2.heap.size w3.heap.size T6.out.choose _ _ v6 w6 HS.out (S5.out.below Q6.out (by obtain ⟨_, _, _, _, _, _, _, _, _, _, _, q⟩ := S5.out; exact q.hi.2.2.2.1)) T6.out.choose_spec).mono ?_; rintro e w7 ⟨rfl, b7⟩; have Q7 : Hid (Below w5.heap.size w5 w7) := Q6.out.trans (b7.mono Q6.out.size); clear b7))) | fail
 all_goals
  clear r0 r1 r2 r3 p0 p1 p2 p3 lt q0 q1 q2 q3 lq T6 Q6
  have G7 : Hid (OwR w7 wB.heap.size (.slice (some ⟨ag, 0, none⟩) N cg) N H) := G5.out.below Q7.out
  have V7 : Hid (OwR w7 w1.heap.size (.slice (some ⟨aw, 0, none⟩) N cw) N H) := V5.out.below Q7.out
  have S7 : Hid (IsSys w7 w2.heap.size w3.heap.size x x3.v) := S5.out.below Q7.out (by obtain ⟨_, _, _, _, _, _, _, _, _, _, _, q⟩ := S5.out; exact q.hi.2.2.2.1)
  have X8 : Hid (Px W x w7) := X6.out.below Q7.out
  have R7 : Hid (BoxC w7 w3.heap.size (.slice x3.pa x3.pn x3.pc) (.slice x3.sa x3.sn x3.sc) (.slice x3.wa x3.wn x3.wc) (.slice x3.ha x3.hn x3.hc) /\ w3.heap.size < w7.heap.size) := ⟨Q5.out.1.below Q7.out, zL Q5.out.2 Q7.out.size⟩
  clear Q7 X6 G5 V5 S5 Q5
  obtain ⟨⟨q0, q1, q2, q3⟩, lq⟩ := R7.out
  go_wp2_with fail
  clear q0 q1 q2 q3 lq
  refine (markSys_any x _ _ _ w7 HS.out S7.out).mono ?_
  rintro e w8 ⟨⟨z, rfl, hz⟩, t8⟩
  have G8 : Hid (OwR w8 wB.heap.size (.slice (some ⟨ag, 0, none⟩) N cg) N H) := G7.out.touch t8 fun g hg => by
   have := GG.out g hg
   omega
  have V8 : Hid (OwR w8 w1.heap.size (.slice (some ⟨aw, 0, none⟩) N cw) N H) := V7.out.touch t8 fun g hg => by
   have := GW.out g hg
   omega
  have X9 : Hid (Px W x w8) := X8.out.touch t8 fun b hb => by have := LT.out; omega
  clear t8 X8 G7 V7 S7 R7
  go_wp2_with fail
  refine (eqWhoS_own ag aw cg cw N H _ _ w8 hX G8.out V8.out).mono ?_
  rintro e w9 ⟨rfl, b9⟩
  have G9 : Hid (OwR w9 wB.heap.size (.slice (some ⟨ag, 0, none⟩) N cg) N H) := G8.out.below b9
  have V9 : Hid (OwR w9 w1.heap.size (.slice (some ⟨aw, 0, none⟩) N cw) N H) := V8.out.below b9
  have X10 : Hid (Px W x w9) := X9.out.below b9
  clear b9 X9 G8 V8
  go_wp2_with fail
  refine (markWhoS_own ag N cg 1 w9 hX (by omega) (by omega) G9.out.room.1).mono ?_
  rintro e w10 ⟨rfl, g10, m10⟩
  have GA : Hid (w3.heap.size < ag) := GG.out ag rfl
  have V10 : Hid (OwR w10 w1.heap.size (.slice (some ⟨aw, 0, none⟩) N cw) N H) := V9.out.ofBlock fun j hj => g10.block j (V9.out.lt j hj).2 fun e => by
   have h1 := GW.out j hj
   have h2 := GA.out
   have h3 := LT.out
   have h4 : j = ag := by simpa using e
   omega
  have X11a : Hid (Px W x w10) := X10.out.touch (Touch.of_grown (P := fun b => b = ag) g10 fun b e => by simpa using e.symm) fun b e => by
   have h2 := GA.out
   have h3 := LT.out
   have h4 : b = ag := e
   omega
  have M10a : Hid (WoAt w10 ag 0 N (markW 1) /\ ag < w10.heap.size) := ⟨m10, zL G9.out.room.2.2 g10.size⟩
  clear g10 X10 G9 V9 m10
  go_wp2_with fail
  refine (heldWhoS_marks ag N cg 1 w10 hX (by omega) (by omega) M10a.out.1).mono ?_
  rintro e w11 ⟨rfl, b11⟩
  have X11 : Hid (Px W x w11) := X11a.out.below b11
  have V11 : Hid (OwR w11 w1.heap.size (.slice (some ⟨aw, 0, none⟩) N cw) N H) := V10.out.below b11
  have M10 : Hid (WoAt w11 ag 0 N (markW 1) /\ ag < w11.heap.size) := ⟨M10a.out.1.below b11 M10a.out.2, zL M10a.out.2 b11.size⟩
  clear b11 X11a V10 M10a
  have hq : ¬ (1 + 2 * (N : Int) < 0) := by omega
  obtain ⟨-, ⟨p0, p1, p2, p3⟩, lt⟩ := X11.out
  go_wp2_with fail
  clear p0 p1 p2 p3 lt
  refine (toSys_any x W w11 HS.out HA.out X11.out.be).mono ?_
  rintro e w12 ⟨v12, rfl, o12, b12⟩
  obtain ⟨x12, rfl, g12, y12, -⟩ := o12.g2
  have S12 : Hid (SysG w12 x12 /\ x12.y = x.y) := ⟨g12, y12⟩
  have V12 : Hid (OwR w12 w1.heap.size (.slice (some ⟨aw, 0, none⟩) N cw) N H) := V11.out.below b12
  have M12 : Hid (WoAt w12 ag 0 N (markW 1) /\ ag < w12.heap.size) := ⟨M10.out.1.below b12 M10.out.2, zL M10.out.2 b12.size⟩
  have X13 : Hid (Px W x w12) := X11.out.below b12
  clear b12 X11 V11 M10 o12 g12 y12
  go_wp2_with fail
  refine (implRow_any x12 w12 S12.out.1 (SysIn.len_of HS.out S12.out.2) ((X13.out.be.cell (p := ⟨0, 0, none⟩) HV0.out).trans HV.out)).mono ?_
  rintro e w13 ⟨u13, rfl, o13, b13⟩
  rw [S12.out.2, HN.out.1, HN.out.2] at o13
  obtain ⟨ah, ch, rfl, -, -, -, -⟩ := o13.form
  have H13 : Hid (OwR w13 w12.heap.size (.slice (some ⟨ah, 0, none⟩) N ch) N H) := o13
  have V13 : Hid (OwR w13 w1.heap.size (.slice (some ⟨aw, 0, none⟩) N cw) N H) := V12.out.below b13
  have M13 : Hid (WoAt w13 ag 0 N (markW 1) /\ ag < w13.heap.size) := ⟨M12.out.1.below b13 M12.out.2, zL M12.out.2 b13.size⟩
  have X14 : Hid (Px W x w13) := X13.out.below b13
  clear b13 X13 V12 M12 o13 S12
  go_wp2_with fail
  refine (eqWhoS_own ah aw ch cw N H _ _ w13 hX H13.out V13.out).mono ?_
  rintro e w14 ⟨rfl, b14⟩
  have M14 : Hid (WoAt w14 ag 0 N (markW 1) /\ ag < w14.heap.size) := ⟨M13.out.1.below b14 M13.out.2, zL M13.out.2 b14.size⟩
  have X15 : Hid (Px W x w14) := X14.out.below b14
  clear b14 X14 V13 H13 M13
  go_wp2_with fail
  refine (heldWhoS_marks ag N cg 1 w14 hX (by omega) (by omega) M14.out.1).mono ?_
  rintro e w15 ⟨rfl, b15⟩
  have X16 : Hid (Px W x w15) := X15.out.below b15
  clear b15 X15 M14
  go_wp2
  go_ret
  exact ⟨rfl, X16.out.be⟩
theorem rowLaw_great (x : SysIn) (W : World) (hr : x.Row W) (hm : x.Max) (hs : 1048576 < x.size) :
  Calls Tryz.prog 7 #[sysV x.pa x.pn x.pc x.sa x.sn x.sc x.wa x.wn x.wc x.ha x.hn x.hc] W fun e w' => e = .returned (.bool true) /\ Below W.heap.size W w' := by
 have HR : Hid (x.Row W) := hr
 have HM : Hid x.Max := hm
 have HS : Hid (1048576 < x.size) := hs
 clear hr hm hs
 go_enter Tryz.func7, Tryz.ntmps7
 go_wp2_with fail
 refine (szSys_great x _ (HR.out.below (below_allocS _ _)) HM.out HS.out).mono ?_
 rintro e w0 ⟨rfl, b0⟩
 have B0 : Hid (Below W.heap.size W w0) := (below_allocS _ _).trans (b0.mono (by simp))
 clear b0
 go_wp2
 go_ret
 exact ⟨rfl, B0.out⟩
theorem rowLifted (os : Os) (started : os.Started) (H : Type) (enc : TypeId × Value -> H) :
  ReturnsInHanded {} Tryz.checked os 7 .any (fun w args => (Rows.fnExactRowSpec.pre enc Tryz.prog Tryz.f7 [] false w args /\ laidMetH Tryz.prog [("errors.errorType", Rows.laid_errors_errorType)] w) /\ sizedMet enc Tryz.prog Tryz.f7 (OpenSpec.ofChange Rows.fnExactRowSpec) false w args)
   (Rows.fnExactRowSpec.post enc Tryz.prog Tryz.f7 false true false false) := by
 refine returnsInHanded_of_change_and (C := Tryz.checked) (X := fun w _ => laidMetH Tryz.prog [("errors.errorType", Rows.laid_errors_errorType)] w) (fun _ _ _ hh h => h.of_heap hh) Tryz.own started (by kernel_rfl) Tryz.func7
  (ChangeSpec.witness_at (enc := enc) (C := Tryz.checked) (os := os) (X := fun w _ => laidMetH Tryz.prog [("errors.errorType", Rows.laid_errors_errorType)] w) false (laidWorld os) #[sysV none 0 0 none 0 0 none 0 0 none 0 0] 8 rfl (by kernel_rfl) (by kernel_rfl) (by kernel_rfl) (by kernel_rfl) (by kernel_rfl) (laidWorld_met os _)) ?_
 intro W base args ds gs before hval0 hW _ _ hL _
 have hval : ∀ (j : Nat) t v, Tryz.f7.params[j]? = some t -> args[j]? = some v -> Value.okWide Tryz.prog W .any base t v := hval0
 have hW' := hW
 obtain ⟨p, q, hA0, hV, rfl, hfz, hnd⟩ := hW
 have hA : DataW.TrodAll enc Tryz.prog W 0 (fun _ => true) true Tryz.f7.params.toList args.toList ds p := hA0
 rw [Tryz.params7] at hA hval
 obtain ⟨v0, d0, rfl, rfl, h0⟩ := trodAll_one hA
 obtain ⟨rfl, rfl⟩ := trodVars_none hV
 have lt0 : ∀ x ∈ p, x.block < W.heap.size := by obtain ⟨m, hm⟩ := h0; exact DataW.trod_lt m _ _ _ hm
 have hg := handle_of_laid hL
 clear hA0 hval0
 have hlaw : Calls Tryz.prog 7 #[v0] W fun e w' => e = .returned (.bool true) /\ Below W.heap.size W w' := by
  obtain ⟨x, e, hr, hm, hy⟩ := open_sys (hval 0 58 v0 rfl rfl) h0
  by_cases hs : x.size <= 1048576
  ·obtain ⟨y, ey, hok, hys⟩ := hy hs
   rw [ey]
   exact rowLaw_small y W hys hok hg
  ·rw [e]
   exact rowLaw_great x W hr hm (by omega)
 refine hlaw.mono fun e W' ⟨he, bel⟩ => ?_
 subst he
 exact ⟨_, rfl, _, _, _, [], _, [], hW', trodAll_mk1 (shut_bool Tryz.underlying4 _), trodAll_mk1 (Below.trod Tryz.laidOut (by kernel_rfl) (of_decide_eq_true (by kernel_rfl)) h0 bel lt0), rfl, bel.frame _, fun h => by cases h⟩
theorem rowSaid : Rows.FnExactRowSaid :=
 OpenClaim.holds_of_wide 7 Tryz.f7 rfl rfl rfl rfl rfl rfl rfl ⟨rfl, rfl, rfl, rfl, rfl⟩ rfl rfl rfl rfl rfl (by kernel_rfl) Tryz.func7 (by kernel_rfl)
  (of_decide_eq_true (by kernel_rfl)) (by unfold Func.isWrapper; first | (rw [if_pos (by decide +kernel)]; kernel_rfl) | (rw [if_neg (by decide +kernel)]; exact ⟨rfl, rfl⟩))
  (fun os started H enc _ => rowLifted os started H enc)
theorem rowPlain (f : FuncId) (fn : Func) (hf : Tryz.pinned.checked.prog.funcNamed "loop.example/g00196/laws.FnExactRow" = some f) (hfn : Tryz.pinned.checked.prog.funcs[f]? = some fn) :
  true = Tryz.pinned.checked.prog.looks [] /\ ∀ (j : Nat) t, fn.params[j]? = some t -> Tryz.pinned.checked.prog.wantsStandIn t = false := by
 obtain rfl : f = 7 := Option.some.inj ((show Tryz.prog.funcNamed "loop.example/g00196/laws.FnExactRow" = some 7 by kernel_rfl).symm.trans hf) |>.symm
 obtain rfl : fn = Tryz.f7 := (Option.some.inj (Tryz.func7.symm.trans hfn)).symm
 refine ⟨by kernel_rfl, fun j t ht => ?_⟩
 rw [Tryz.params7] at ht
 have hm := Array.mem_of_getElem? ht
 simp at hm
 obtain rfl := hm
 exact (show Tryz.prog.wantsStandIn 58 = false by kernel_rfl)
theorem row_card : Rows.FnExactRowCardSaid :=
 Claim7.holds_tied_plain_at .later [] _ _ _ _ rowSaid (fun _ h => by cases h) (by kernel_rfl) (fun _ h => by cases h) fnExactRow_row_tie rfl ⟨rfl, rfl⟩ (by kernel_rfl) rfl rowPlain (by kernel_rfl)
end Go.Proofs.YthdaejgmfognbaaGreatDoor
