/- The walk of the program's happen. -/
import Derived.Test.YtcplnkhdclcgfaaGreatDoorSd0
import Derived.Test.YtcplnkhdclcgfaaGreatDoorSd46
namespace Go.Proofs.YtcplnkhdclcgfaaGreatDoor
set_option maxRecDepth 100000
set_option maxHeartbeats 20000000
open Go.ChangeShapes Go.WideShapes Go.ChangeAt Go.RowKit Go.Deep
variable {z : Bool}
theorem happen_any (y : Sy) (p : Nat) (k q v0 : Int) (w : World) (B : Nat) (c : Nat -> Nat) (vp vs vw vh : Value) (up us uw uh : Nat -> Value) (o : OwnS z w B c y vp vs vw vh up us uw uh) (hB : B <= w.heap.size) (hO : y.Ok) (hp : p < y.pn) (hk2 : k = 2 -> 0 <= q /\ q < y.pn) (hk3 : k = 3 -> 0 <= q /\ q < y.pn /\ 0 < y.wL (q.toNat * y.pn + p)) :
  Calls Tryz.prog 43 #[.agg #[vp, vs, vw, vh], .int .i64 p, evV k q v0] w fun e w' => e = .returned (.tuple #[]) /\ Below B w w' /\ (∀ b, b < w.heap.size -> c b = 0 -> w'.heap[b]? = w.heap[b]?) /\ OwnSys z w' B ((y.evt p k q v0).way p k q v0) (.agg #[vp, vs, vw, vh]) := by
 obtain ⟨⟨h1, h4⟩, hs, hh, hw⟩ := hO.cn
 have hps : p < y.sn := by omega
 have hph : p < y.hn := by omega
 have hw0 : 0 < y.wn := by rw [hw]; exact Nat.mul_pos (by omega) (by omega)
 obtain ⟨gp, cp, rfl, -, -, -, -⟩ := o.p.cell hp
 obtain ⟨gs, cs, rfl, -, -, -, -⟩ := o.s.cell hps
 obtain ⟨gh, ch, rfl, -, -, -, -⟩ := o.h.cell hph
 obtain ⟨gw, cw, rfl, -, -, -, -⟩ := o.t.cell hw0
 have hL200 : y.hL p <= 200 := hO.le200 hp
 have HP4 : Hid (progOkB (y.pH p) (y.pL p) 4 = true) := hO.four hp
 have HST : Hid (OkS (y.pL p) (y.sS p)) := hO.st hp
 have HLn : Hid (y.pL p <= maxLen /\ (y.sS p).rs.length <= 1048576 /\ (y.sS p).os.length <= 1048576) := hO.lens hp
 have HWY : Hid (∀ a b, a < y.pn -> b < y.pn -> y.wL (a * y.pn + b) <= 12) := fun a b ha hb => hO.way ha hb
 have HK2 : Hid (k = 2 -> 0 <= q /\ q < y.pn) := hk2
 have HK3 : Hid (k = 3 -> 0 <= q /\ q < y.pn /\ 0 < y.wL (q.toNat * y.pn + p)) := hk3
 have HN : Hid (y.sn = y.pn /\ y.hn = y.pn /\ y.wn = y.pn * y.pn) := ⟨hs, hh, hw⟩
 have hp' : (p : Int) < (y.pn : Int) := by omega
 have hps' : (p : Int) < (y.sn : Int) := by omega
 have hph' : (p : Int) < (y.hn : Int) := by omega
 have H0 : Hid (Hp z w B c k q v0 y (.slice (some ⟨gp, 0, none⟩) y.pn cp) (.slice (some ⟨gs, 0, none⟩) y.sn cs) (.slice (some ⟨gw, 0, none⟩) y.wn cw) (.slice (some ⟨gh, 0, none⟩) y.hn ch) ((w.alloc (oQ4 (some ⟨gp, 0, none⟩) y.pn cp (some ⟨gs, 0, none⟩) y.sn cs (some ⟨gw, 0, none⟩) y.wn cw (some ⟨gh, 0, none⟩) y.hn ch)).alloc (oQ1 k q v0))) := by
  have b1 := zQ w (oQ4 (some ⟨gp, 0, none⟩) y.pn cp (some ⟨gs, 0, none⟩) y.sn cs (some ⟨gw, 0, none⟩) y.wn cw (some ⟨gh, 0, none⟩) y.hn ch)
  have b2 := zQ (w.alloc (oQ4 (some ⟨gp, 0, none⟩) y.pn cp (some ⟨gs, 0, none⟩) y.sn cs (some ⟨gw, 0, none⟩) y.wn cw (some ⟨gh, 0, none⟩) y.hn ch)) (oQ1 k q v0)
  have b := b1.trans (b2.mono b1.size)
  exact ⟨b.mono hB, (BoxC.new w _ _ _ _ _).below b2, by simpa using EvK.new (w.alloc (oQ4 (some ⟨gp, 0, none⟩) y.pn cp (some ⟨gs, 0, none⟩) y.sn cs (some ⟨gw, 0, none⟩) y.wn cw (some ⟨gh, 0, none⟩) y.hn ch)) k q v0 71, fun j hj _ => b.block j hj, _, up, us, uw, uh, (o.recol 0).below b, rcol_new (Nat.le_refl _), rcol_new (Nat.le_succ _), fun j hj => rcol_old hj⟩
 clear o hO hk2 hk3 hw0 hs hh hw
 go_enter Tryz.func43, Tryz.ntmps43
 go_upto_region 1 with fail
 generalize (w.alloc (oQ4 (some ⟨gp, 0, none⟩) y.pn cp (some ⟨gs, 0, none⟩) y.sn cs (some ⟨gw, 0, none⟩) y.wn cw (some ⟨gh, 0, none⟩) y.hn ch)).alloc (oQ1 k q v0) = W2 at *
 obtain ⟨c9, up9, us9, uw9, uh9, o9, -, -, -⟩ := H0.out.ow
 obtain ⟨b0, b1, b2, b3⟩ := H0.out.bx
 obtain ⟨k0, k1, k2, kf⟩ := id H0.out.ev
 have m0 := H0.out.bx.ltM
 have mN := H0.out.ev.lt
 obtain ⟨g9, k9, ew, -, lp, cellp, -⟩ := o9.p.cell hp
 simp only [Value.slice.injEq, Option.some.injEq, Addr.mk.injEq, and_true, true_and] at ew
 obtain ⟨rfl, rfl⟩ := ew
 obtain ⟨b9, cb9, eup, hb9, hI, -⟩ := atI (o9.p.own p hp) (o9.p.nn nzI p hp)
 rw [eup] at cellp
 obtain ⟨g9, k9, ew, -, ls, cels, fs⟩ := o9.s.cell hps
 simp only [Value.slice.injEq, Option.some.injEq, Addr.mk.injEq, and_true, true_and] at ew
 obtain ⟨rfl, rfl⟩ := ew
 obtain ⟨ra9, rc9, oa9, oc9, eus, s0, s1, s2, s3⟩ := cels
 have hsl : Sl W2 ra9 (y.sS p).rs /\ Sl W2 oa9 (y.sS p).os := by
  have h4 := o9.s.own p hps
  rw [eus] at h4
  exact ⟨h4.parts.1.slOf, h4.parts.2.1.slOf⟩
 clear eup eus
 refine wp_region_G (fun w' => w'.cell? ⟨w.heap.size, 0, none⟩ = some (.slice (some ⟨gp, 0, none⟩) y.pn cp) /\ w'.cell? ⟨w.heap.size, 1, none⟩ = some (.slice (some ⟨gs, 0, none⟩) y.sn cs) /\ w'.cell? ⟨gp, p, none⟩ = some (.slice (some ⟨b9, 0, none⟩) (y.pL p) cb9) /\ w'.cell? ⟨gs, p * 4, none⟩ = some (.int .i64 (y.sS p).p) /\ w'.cell? ⟨gs, p * 4 + 1, none⟩ = some (.slice ra9 (y.sS p).rs.length rc9) /\ w'.cell? ⟨gs, p * 4 + 2, none⟩ = some (.slice oa9 (y.sS p).os.length oc9) /\ w'.cell? ⟨gs, p * 4 + 3, none⟩ = some (.int .i64 (y.sS p).c) /\ w'.cell? ⟨w.heap.size + 1, 0, none⟩ = some (.int .i64 k) /\ w'.cell? ⟨w.heap.size + 1, 1, none⟩ = some (.int .i64 q) /\ w'.cell? ⟨w.heap.size + 1, 2, none⟩ = some (.int .i64 v0)) (fun i => i == 19) (by kernel_rfl) ?_
 have hHeld : (fun w' => w'.cell? ⟨w.heap.size, 0, none⟩ = some (.slice (some ⟨gp, 0, none⟩) y.pn cp) /\ w'.cell? ⟨w.heap.size, 1, none⟩ = some (.slice (some ⟨gs, 0, none⟩) y.sn cs) /\ w'.cell? ⟨gp, p, none⟩ = some (.slice (some ⟨b9, 0, none⟩) (y.pL p) cb9) /\ w'.cell? ⟨gs, p * 4, none⟩ = some (.int .i64 (y.sS p).p) /\ w'.cell? ⟨gs, p * 4 + 1, none⟩ = some (.slice ra9 (y.sS p).rs.length rc9) /\ w'.cell? ⟨gs, p * 4 + 2, none⟩ = some (.slice oa9 (y.sS p).os.length oc9) /\ w'.cell? ⟨gs, p * 4 + 3, none⟩ = some (.int .i64 (y.sS p).c) /\ w'.cell? ⟨w.heap.size + 1, 0, none⟩ = some (.int .i64 k) /\ w'.cell? ⟨w.heap.size + 1, 1, none⟩ = some (.int .i64 q) /\ w'.cell? ⟨w.heap.size + 1, 2, none⟩ = some (.int .i64 v0)) W2.drew := ⟨b0, b1, cellp, s0, s1, s2, s3, k0, k1, k2⟩
 refine wpGT_of [0, 1, 2, 3, 4, 5, 6, 7, 8, 9, 10, 11, 12, 13] ?_
 iterate 14 (refine wpGT_take rfl hHeld ?_; apply Exists.intro; refine ⟨fun wq hSw => ?_, ?_⟩; (· ((try dsimp only at hSw); go_simp; try with_reducible rfl)); (try simp only [Act.put, zD, zE, zF]))
 refine wpGT_nil ?_
 refine wpG_one 14 rfl (by kernel_rfl) (fun K hK => ?_)
 refine stepR_call rfl 105 _ _ rfl #[.slice (some ⟨b9, 0, none⟩) (y.pL p) cb9, stV (y.sS p).p ra9 (y.sS p).rs.length rc9 oa9 (y.sS p).os.length oc9 (y.sS p).c, evV k q v0] (by simp [Act.eval]) (yA Tryz.func105 (by kernel_rfl) rfl) (doIn_any b9 0 (y.pL p) cb9 (y.pH p) (y.sS p).p (y.sS p).c ra9 oa9 rc9 oc9 (y.sS p).rs (y.sS p).os k q v0 W2.drew HLn.out.1 hb9 hI HLn.out.2.1 HLn.out.2.2 hsl.1 hsl.2 HP4.out) ?_
 rintro e w5 ⟨u5, rfl, o5, d5⟩
 refine ⟨_, rfl, ?_⟩
 have HT : Hid (y.evt p k q v0 = (y.setS p (doS (y.pH p) (y.pL p) (y.sS p).p (y.sS p).rs (y.sS p).os (y.sS p).c k q v0)).setH p (y.hL p + 1) (fun i => if i = y.hL p then ⟨k, q, v0⟩ else y.hH p i)) := rfl
 generalize doS (y.pH p) (y.pL p) (y.sS p).p (y.sS p).rs (y.sS p).os (y.sS p).c k q v0 = T at o5 HT
 generalize doB (y.pH p) (y.pL p) (y.sS p).p (y.sS p).rs (y.sS p).os (y.sS p).c k q v0 = tb
 obtain ⟨ra5, rc5, oa5, oc5, rfl, -, -⟩ := o5.read
 have q5 : Below W2.heap.size W2 w5 := (Below.refl W2.heap.size W2).drew.trans d5
 have hc5 := (bcell q5).1
 have hHeld5 : (fun w' => w'.cell? ⟨w.heap.size, 0, none⟩ = some (.slice (some ⟨gp, 0, none⟩) y.pn cp) /\ w'.cell? ⟨w.heap.size, 1, none⟩ = some (.slice (some ⟨gs, 0, none⟩) y.sn cs) /\ w'.cell? ⟨gp, p, none⟩ = some (.slice (some ⟨b9, 0, none⟩) (y.pL p) cb9) /\ w'.cell? ⟨gs, p * 4, none⟩ = some (.int .i64 (y.sS p).p) /\ w'.cell? ⟨gs, p * 4 + 1, none⟩ = some (.slice ra9 (y.sS p).rs.length rc9) /\ w'.cell? ⟨gs, p * 4 + 2, none⟩ = some (.slice oa9 (y.sS p).os.length oc9) /\ w'.cell? ⟨gs, p * 4 + 3, none⟩ = some (.int .i64 (y.sS p).c) /\ w'.cell? ⟨w.heap.size + 1, 0, none⟩ = some (.int .i64 k) /\ w'.cell? ⟨w.heap.size + 1, 1, none⟩ = some (.int .i64 q) /\ w'.cell? ⟨w.heap.size + 1, 2, none⟩ = some (.int .i64 v0)) w5 := ⟨(hc5 _ _ m0).trans b0, (hc5 _ _ m0).trans b1, (hc5 _ _ lp).trans cellp, (hc5 _ _ ls).trans s0, (hc5 _ _ ls).trans s1, (hc5 _ _ ls).trans s2, (hc5 _ _ ls).trans s3, (hc5 _ _ mN).trans k0, (hc5 _ _ mN).trans k1, (hc5 _ _ mN).trans k2⟩
 have hf5 : ∀ j, w5.frozen? ⟨gs, j, none⟩ = false := fun j => ((bcell q5).2 _ j ls).trans (fs j)
 have H1 : Hid (Hp z w B c k q v0 (y.setS p T) (.slice (some ⟨gp, 0, none⟩) y.pn cp) (.slice (some ⟨gs, 0, none⟩) y.sn cs) (.slice (some ⟨gw, 0, none⟩) y.wn cw) (.slice (some ⟨gh, 0, none⟩) y.hn ch) ((((w5.setCell ⟨gs, p * 4, none⟩ (.int .i64 T.p)).setCell ⟨gs, p * 4 + 1, none⟩ (.slice ra5 T.rs.length rc5)).setCell ⟨gs, p * 4 + 2, none⟩ (.slice oa5 T.os.length oc5)).setCell ⟨gs, p * 4 + 3, none⟩ (.int .i64 T.c))) := H0.out.putS hB hps q5 (o5.mono (by simp))
 refine hK.out _ _ (fun _ => hHeld5) ?_
 clear hHeld
 have hHeld := hHeld5
 clear hHeld5 hc5 d5
 clear hK K
 (try simp only [Act.put, zD, zE, zF])
 refine wpGT_of [15, 16] ?_
 iterate 2 (refine wpGT_take rfl hHeld ?_; apply Exists.intro; refine ⟨fun wq hSw => ?_, ?_⟩; (· ((try dsimp only at hSw); go_simp; try with_reducible rfl)); (try simp only [Act.put, zD, zE, zF]))
 refine wpGT_nil ?_
 refine wpG_takeW 17 rfl (by kernel_rfl) (by kernel_rfl) (by kernel_rfl) (fun _ _ _ _ h => h) (by rfl) ?_
 apply Exists.intro
 refine ⟨fun wq => ?_, ?_⟩
 ·go_simp
  try with_reducible rfl
 (try simp only [Act.put, zD, zE, zF])
 refine wpG_take 18 rfl hHeld ?_
 apply Exists.intro
 refine ⟨fun wq hSw => ?_, ?_⟩
 ·(try dsimp only at hSw)
  go_simp
  try with_reducible rfl
 (try simp only [Act.put, zD, zE, zF])
 refine wpG_one 19 rfl (by kernel_rfl) (fun K hK => ?_)
 obtain ⟨-, -, -, p0, p1, p2, p3, -⟩ := hHeld
 go_simp
 refine hK.out _ _ (fun h => ?_) ?_
 ·exact absurd h (by decide)
 clear hK K
 (try simp only [Act.put, zD, zE, zF])
 refine wpG_done (by kernel_rfl) ?_ _
 clear o9 hb9 hI hsl b0 b1 b2 b3 k0 k1 k2 kf m0 mN lp cellp ls fs s0 s1 s2 s3 q5 hf5 p0 p1 p2 p3 o5
 go_upto_region 2 with fail
 generalize ((((w5.setCell ⟨gs, p * 4, none⟩ (.int .i64 T.p)).setCell ⟨gs, p * 4 + 1, none⟩ (.slice ra5 T.rs.length rc5)).setCell ⟨gs, p * 4 + 2, none⟩ (.slice oa5 T.os.length oc5)).setCell ⟨gs, p * 4 + 3, none⟩ (.int .i64 T.c)) = W3 at *
 clear H0
 obtain ⟨c9, up9, us9, uw9, uh9, o9, -, -, -⟩ := H1.out.ow
 obtain ⟨b0, b1, b2, b3⟩ := H1.out.bx
 obtain ⟨k0, k1, k2, kf⟩ := id H1.out.ev
 have m0 := H1.out.bx.ltM
 have mN := H1.out.ev.lt
 have OH9 : LE z W3 (Cl B c9 4) (.slice (some ⟨gh, 0, none⟩) y.hn ch) y.hn uh9 y.hL y.hH := o9.h
 obtain ⟨g9, k9, ew, -, lh, cellh, fh⟩ := OH9.cell hph
 simp only [Value.slice.injEq, Option.some.injEq, Addr.mk.injEq, and_true, true_and] at ew
 obtain ⟨rfl, rfl⟩ := ew
 clear OH9
 have HEq : Hid (∀ wx, Below W3.heap.size W3 wx -> Calls Tryz.prog 106 #[sysV (some ⟨gp, 0, none⟩) y.pn cp (some ⟨gs, 0, none⟩) y.sn cs (some ⟨gw, 0, none⟩) y.wn cw (some ⟨gh, 0, none⟩) y.hn ch, .int .i64 p] wx fun e w' => e = .returned (.agg #[.slice (adOf (uh9 p)) (y.hL p) (cpOf (uh9 p)), .int .i64 200]) /\ Below wx.heap.size wx w') := fun wx hb => by
  have h := eventQueue_any _ p wx (o9.g.below hb) hph
  rw [o9.v] at h
  exact h
 have HWi : Hid (∀ wx, Below W3.heap.size W3 wx -> Calls Tryz.prog 107 #[.agg #[.slice (adOf (uh9 p)) (y.hL p) (cpOf (uh9 p)), .int .i64 200], .agg #[.int .i64 k, .int .i64 q, .int .i64 v0]] wx fun e w' => ∃ v, e = .returned v /\ w'.ownsRow wx.heap.size 71 3 v (y.hL p + 1) (fE (fun i => if i = y.hL p then ⟨k, q, v0⟩ else y.hH p i) (y.hL p + 1)) /\ v ≠ .slice none 0 0 /\ Below wx.heap.size wx w') := fun wx hb => withEvent_own _ (y.hL p) _ 200 (y.hH p) ⟨k, q, v0⟩ wx (by omega) (srcE ((o9.g.below hb).hi p hph))
 refine wp_region_G (fun w' => w'.cell? ⟨w.heap.size, 0, none⟩ = some (.slice (some ⟨gp, 0, none⟩) y.pn cp) /\ w'.cell? ⟨w.heap.size, 1, none⟩ = some (.slice (some ⟨gs, 0, none⟩) y.sn cs) /\ w'.cell? ⟨w.heap.size, 2, none⟩ = some (.slice (some ⟨gw, 0, none⟩) y.wn cw) /\ w'.cell? ⟨w.heap.size, 3, none⟩ = some (.slice (some ⟨gh, 0, none⟩) y.hn ch) /\ w'.cell? ⟨w.heap.size + 1, 0, none⟩ = some (.int .i64 k) /\ w'.cell? ⟨w.heap.size + 1, 1, none⟩ = some (.int .i64 q) /\ w'.cell? ⟨w.heap.size + 1, 2, none⟩ = some (.int .i64 v0) /\ w'.cell? ⟨gh, p, none⟩ = some (uh9 p)) (fun i => i == 9) (by kernel_rfl) ?_
 have hHeld : (fun w' => w'.cell? ⟨w.heap.size, 0, none⟩ = some (.slice (some ⟨gp, 0, none⟩) y.pn cp) /\ w'.cell? ⟨w.heap.size, 1, none⟩ = some (.slice (some ⟨gs, 0, none⟩) y.sn cs) /\ w'.cell? ⟨w.heap.size, 2, none⟩ = some (.slice (some ⟨gw, 0, none⟩) y.wn cw) /\ w'.cell? ⟨w.heap.size, 3, none⟩ = some (.slice (some ⟨gh, 0, none⟩) y.hn ch) /\ w'.cell? ⟨w.heap.size + 1, 0, none⟩ = some (.int .i64 k) /\ w'.cell? ⟨w.heap.size + 1, 1, none⟩ = some (.int .i64 q) /\ w'.cell? ⟨w.heap.size + 1, 2, none⟩ = some (.int .i64 v0) /\ w'.cell? ⟨gh, p, none⟩ = some (uh9 p)) W3.drew := ⟨b0, b1, b2, b3, k0, k1, k2, cellh⟩
 refine wpGT_of [0, 1, 2, 3, 4, 6] ?_
 iterate 6 (refine wpGT_take rfl hHeld ?_; apply Exists.intro; refine ⟨fun wq hSw => ?_, ?_⟩; (· ((try dsimp only at hSw); go_simp; try with_reducible rfl)); (try simp only [Act.put, zD, zE, zF]))
 refine wpGT_nil ?_
 refine wpG_one 5 rfl (by kernel_rfl) (fun K hK => ?_)
 refine stepR_call rfl 106 _ _ rfl #[sysV (some ⟨gp, 0, none⟩) y.pn cp (some ⟨gs, 0, none⟩) y.sn cs (some ⟨gw, 0, none⟩) y.wn cw (some ⟨gh, 0, none⟩) y.hn ch, .int .i64 p] (by simp [Act.eval]) (yA Tryz.func106 (by kernel_rfl) rfl) (HEq.out W3.drew (Below.refl W3.heap.size W3).drew) ?_
 rintro e w5 ⟨rfl, d5⟩
 refine ⟨_, rfl, ?_⟩
 have q5 : Below W3.heap.size W3 w5 := (Below.refl W3.heap.size W3).drew.trans d5
 have hc5 := (bcell q5).1
 refine hK.out _ _ (fun _ => ⟨(hc5 _ _ m0).trans b0, (hc5 _ _ m0).trans b1, (hc5 _ _ m0).trans b2, (hc5 _ _ m0).trans b3, (hc5 _ _ mN).trans k0, (hc5 _ _ mN).trans k1, (hc5 _ _ mN).trans k2, (hc5 _ _ lh).trans cellh⟩) ?_
 clear hc5 d5
 clear hK K
 (try simp only [Act.put, zD, zE, zF])
 refine wpG_one 7 rfl (by kernel_rfl) (fun K hK => ?_)
 refine stepR_call rfl 107 _ _ rfl #[.agg #[.slice (adOf (uh9 p)) (y.hL p) (cpOf (uh9 p)), .int .i64 200], .agg #[.int .i64 k, .int .i64 q, .int .i64 v0]] (by simp [Act.eval]) (yA Tryz.func107 (by kernel_rfl) rfl) (HWi.out w5 q5) ?_
 rintro e w6 ⟨v6, rfl, o6, n6, d6⟩
 refine ⟨_, rfl, ?_⟩
 have q6 : Below W3.heap.size W3 w6 := q5.trans (d6.mono q5.size)
 have hc6 := (bcell q6).1
 have hHeld6 : (fun w' => w'.cell? ⟨w.heap.size, 0, none⟩ = some (.slice (some ⟨gp, 0, none⟩) y.pn cp) /\ w'.cell? ⟨w.heap.size, 1, none⟩ = some (.slice (some ⟨gs, 0, none⟩) y.sn cs) /\ w'.cell? ⟨w.heap.size, 2, none⟩ = some (.slice (some ⟨gw, 0, none⟩) y.wn cw) /\ w'.cell? ⟨w.heap.size, 3, none⟩ = some (.slice (some ⟨gh, 0, none⟩) y.hn ch) /\ w'.cell? ⟨w.heap.size + 1, 0, none⟩ = some (.int .i64 k) /\ w'.cell? ⟨w.heap.size + 1, 1, none⟩ = some (.int .i64 q) /\ w'.cell? ⟨w.heap.size + 1, 2, none⟩ = some (.int .i64 v0) /\ w'.cell? ⟨gh, p, none⟩ = some (uh9 p)) w6 := ⟨(hc6 _ _ m0).trans b0, (hc6 _ _ m0).trans b1, (hc6 _ _ m0).trans b2, (hc6 _ _ m0).trans b3, (hc6 _ _ mN).trans k0, (hc6 _ _ mN).trans k1, (hc6 _ _ mN).trans k2, (hc6 _ _ lh).trans cellh⟩
 have hf6 : ∀ j, w6.frozen? ⟨gh, j, none⟩ = false := fun j => ((bcell q6).2 _ j lh).trans (fh j)
 obtain ⟨a6, c6, rfl⟩ := zU o6
 have H2 : Hid (Hp z w B c k q v0 (y.evt p k q v0) (.slice (some ⟨gp, 0, none⟩) y.pn cp) (.slice (some ⟨gs, 0, none⟩) y.sn cs) (.slice (some ⟨gw, 0, none⟩) y.wn cw) (.slice (some ⟨gh, 0, none⟩) y.hn ch) (w6.setCell ⟨gh, p, none⟩ (.slice a6 (y.hL p + 1) c6))) := by
  have h := H1.out.putH hB hph q6 (o6.mono q5.size) n6
  show Hp z w B c k q v0 (y.evt p k q v0) (.slice (some ⟨gp, 0, none⟩) y.pn cp) (.slice (some ⟨gs, 0, none⟩) y.sn cs) (.slice (some ⟨gw, 0, none⟩) y.wn cw) (.slice (some ⟨gh, 0, none⟩) y.hn ch) _
  rw [HT.out]
  exact h
 refine hK.out _ _ (fun _ => hHeld6) ?_
 clear hHeld
 have hHeld := hHeld6
 clear hHeld6 hc6 d6 o6 n6
 clear hK K
 (try simp only [Act.put, zD, zE, zF])
 refine wpG_take 8 rfl hHeld ?_
 apply Exists.intro
 refine ⟨fun wq hSw => ?_, ?_⟩
 ·(try dsimp only at hSw)
  go_simp
  try with_reducible rfl
 (try simp only [Act.put, zD, zE, zF])
 refine wpG_one 9 rfl (by kernel_rfl) (fun K hK => ?_)
 have hcN := hHeld.2.2.2.2.2.2.2
 have hfN := hf6 p
 go_simp
 refine hK.out _ _ (fun h => ?_) ?_
 ·exact absurd h (by decide)
 clear hK K
 (try simp only [Act.put, zD, zE, zF])
 refine wpG_done (by kernel_rfl) ?_ _
 clear o9 b0 b1 b2 b3 k0 k1 k2 kf m0 mN lh cellh fh q5 q6 hf6 hcN hfN HEq HWi hHeld HT
 go_upto_region 3 with fail
 generalize w6.setCell ⟨gh, p, none⟩ (.slice a6 (y.hL p + 1) c6) = W4 at *
 clear H1
 rcases zK (k == 2) with t2 | t2
 ·have hk : k = 2 := by simpa using t2
  obtain ⟨g1, g2⟩ := HK2.out hk
  obtain ⟨r, rfl⟩ : ∃ r : Nat, q = r := ⟨q.toNat, by omega⟩
  have hr : r < y.pn := by omega
  have hJ : p * y.pn + r < y.wn := by rw [HN.out.2.2]; exact way_lt hp hr
  have h12 : y.wL (p * y.pn + r) <= 12 := HWY.out p r hp hr
  have hr4 : r < 4 := by omega
  have hp4 : p < 4 := by omega
  have HY : Hid ((y.evt p k (r : Int) v0).way p k (r : Int) v0 = (y.evt p k (r : Int) v0).setW (p * y.pn + r) (y.wL (p * y.pn + r) + 1) (fun i => if i = y.wL (p * y.pn + r) then ⟨false, v0⟩ else y.wH (p * y.pn + r) i)) := by
   show (y.evt p k (r : Int) v0).way p k (r : Int) v0 = _
   rw [show (y.evt p k (r : Int) v0).way p k (r : Int) v0 = (y.evt p k (r : Int) v0).way p 2 (r : Int) v0 by rw [hk], Sy.way_send]
   rfl
  have HNu0 : ∀ x : SysIn, x.pn = y.pn -> ∀ wx, Calls Tryz.prog 110 #[x.v, .int .i64 p, .int .i64 r] wx fun e w' => e = .returned (.int .i64 (p * y.pn + r : Nat)) /\ Below wx.heap.size wx w' := fun x e wx => by
   have h := wayNumber_any x p r wx hp4 hr4 (by omega)
   rw [e] at h
   exact h
  have HQu0 : ∀ x : SysIn, x.pn = y.pn -> ∀ wx, SysG wx x -> p * y.pn + r < x.wn -> Calls Tryz.prog 108 #[x.v, .int .i64 p, .int .i64 r] wx fun e w' => e = .returned (.agg #[.slice (x.wA (p * y.pn + r)) (x.wL (p * y.pn + r)) (x.wC (p * y.pn + r)), .int .i64 12]) /\ Below wx.heap.size wx w' := fun x e wx hg hw => by
   have h := wayQueue_any x p r wx hg hp4 hr4 (by omega) (by rw [e]; exact hw)
   rw [e] at h
   exact h
  generalize p * y.pn + r = J at *
  have hJ' : (J : Int) < (y.wn : Int) := by omega
  obtain ⟨c9, up9, us9, uw9, uh9, o9, -, -, -⟩ := H2.out.ow
  obtain ⟨b0, b1, b2, b3⟩ := H2.out.bx
  obtain ⟨k0, k1, k2, kf⟩ := id H2.out.ev
  have m0 := H2.out.bx.ltM
  have mN := H2.out.ev.lt
  have OT9 : LT z W4 (Cl B c9 3) (.slice (some ⟨gw, 0, none⟩) y.wn cw) y.wn uw9 y.wL y.wH := o9.t
  obtain ⟨g9, k9, ew, -, lw, cellw, fw⟩ := OT9.cell hJ
  simp only [Value.slice.injEq, Option.some.injEq, Addr.mk.injEq, and_true, true_and] at ew
  obtain ⟨rfl, rfl⟩ := ew
  have HNu : Hid (∀ wx, Calls Tryz.prog 110 #[sysV (some ⟨gp, 0, none⟩) y.pn cp (some ⟨gs, 0, none⟩) y.sn cs (some ⟨gw, 0, none⟩) y.wn cw (some ⟨gh, 0, none⟩) y.hn ch, .int .i64 p, .int .i64 r] wx fun e w' => e = .returned (.int .i64 (J : Nat)) /\ Below wx.heap.size wx w') := fun wx => by
   have h := HNu0 ((y.evt p k (r : Int) v0).sysIn (.slice (some ⟨gp, 0, none⟩) y.pn cp) (.slice (some ⟨gs, 0, none⟩) y.sn cs) (.slice (some ⟨gw, 0, none⟩) y.wn cw) (.slice (some ⟨gh, 0, none⟩) y.hn ch) up9 us9 uw9 uh9) rfl wx
   rw [o9.v] at h
   exact h
  have HQu : Hid (∀ wx, Below W4.heap.size W4 wx -> Calls Tryz.prog 108 #[sysV (some ⟨gp, 0, none⟩) y.pn cp (some ⟨gs, 0, none⟩) y.sn cs (some ⟨gw, 0, none⟩) y.wn cw (some ⟨gh, 0, none⟩) y.hn ch, .int .i64 p, .int .i64 r] wx fun e w' => e = .returned (.agg #[.slice (adOf (uw9 J)) (y.wL J) (cpOf (uw9 J)), .int .i64 12]) /\ Below wx.heap.size wx w') := fun wx hb => by
   have h := HQu0 ((y.evt p k (r : Int) v0).sysIn (.slice (some ⟨gp, 0, none⟩) y.pn cp) (.slice (some ⟨gs, 0, none⟩) y.sn cs) (.slice (some ⟨gw, 0, none⟩) y.wn cw) (.slice (some ⟨gh, 0, none⟩) y.hn ch) up9 us9 uw9 uh9) rfl wx (o9.g.below hb) hJ
   rw [o9.v] at h
   exact h
  have HWi : Hid (∀ wx, Below W4.heap.size W4 wx -> Calls Tryz.prog 109 #[.agg #[.slice (adOf (uw9 J)) (y.wL J) (cpOf (uw9 J)), .int .i64 12], .agg #[.bool false, .int .i64 v0]] wx fun e w' => ∃ a c, e = .returned (.slice a (y.wL J + 1) c) /\ w'.ownsRow wx.heap.size 126 2 (.slice a (y.wL J + 1) c) (y.wL J + 1) (fT (fun i => if i = y.wL J then ⟨false, v0⟩ else y.wH J i) (y.wL J + 1)) /\ Value.slice a (y.wL J + 1) c ≠ .slice none 0 0 /\ Below wx.heap.size wx w') := fun wx hb => (withItem_own _ (y.wL J) _ 12 (y.wH J) ⟨false, v0⟩ wx (by omega) (srcT ((o9.g.below hb).wi J hJ))).mono fun e w' ⟨v, e1, e2, e3, e4⟩ => by
   obtain ⟨a, c, rfl⟩ := zU e2
   exact ⟨a, c, e1, e2, e3, e4⟩
  clear HNu0 HQu0 o9 OT9 hk
  go_upto_region 5 with fail
  refine wp_region_G (fun w' => w'.cell? ⟨w.heap.size, 0, none⟩ = some (.slice (some ⟨gp, 0, none⟩) y.pn cp) /\ w'.cell? ⟨w.heap.size, 1, none⟩ = some (.slice (some ⟨gs, 0, none⟩) y.sn cs) /\ w'.cell? ⟨w.heap.size, 2, none⟩ = some (.slice (some ⟨gw, 0, none⟩) y.wn cw) /\ w'.cell? ⟨w.heap.size, 3, none⟩ = some (.slice (some ⟨gh, 0, none⟩) y.hn ch) /\ w'.cell? ⟨w.heap.size + 1, 1, none⟩ = some (.int .i64 (r : Int)) /\ w'.cell? ⟨w.heap.size + 1, 2, none⟩ = some (.int .i64 v0) /\ w'.cell? ⟨gw, J, none⟩ = some (uw9 J)) (fun i => i == 17) (by kernel_rfl) ?_
  have hHeld : (fun w' => w'.cell? ⟨w.heap.size, 0, none⟩ = some (.slice (some ⟨gp, 0, none⟩) y.pn cp) /\ w'.cell? ⟨w.heap.size, 1, none⟩ = some (.slice (some ⟨gs, 0, none⟩) y.sn cs) /\ w'.cell? ⟨w.heap.size, 2, none⟩ = some (.slice (some ⟨gw, 0, none⟩) y.wn cw) /\ w'.cell? ⟨w.heap.size, 3, none⟩ = some (.slice (some ⟨gh, 0, none⟩) y.hn ch) /\ w'.cell? ⟨w.heap.size + 1, 1, none⟩ = some (.int .i64 (r : Int)) /\ w'.cell? ⟨w.heap.size + 1, 2, none⟩ = some (.int .i64 v0) /\ w'.cell? ⟨gw, J, none⟩ = some (uw9 J)) W4.drew := ⟨b0, b1, b2, b3, k1, k2, cellw⟩
  have q0 : Below W4.heap.size W4 W4.drew := (Below.refl W4.heap.size W4).drew
  refine wpGT_of [0, 1, 2, 3, 4, 5, 7, 8, 9, 10, 12, 13, 14] ?_
  iterate 13 (refine wpGT_take rfl hHeld ?_; apply Exists.intro; refine ⟨fun wq hSw => ?_, ?_⟩; (· ((try dsimp only at hSw); go_simp; try with_reducible rfl)); (try simp only [Act.put, zD, zE, zF]))
  refine wpGT_nil ?_
  refine wpG_one 6 rfl (by kernel_rfl) (fun K hK => ?_)
  refine stepR_call rfl 110 _ _ rfl #[sysV (some ⟨gp, 0, none⟩) y.pn cp (some ⟨gs, 0, none⟩) y.sn cs (some ⟨gw, 0, none⟩) y.wn cw (some ⟨gh, 0, none⟩) y.hn ch, .int .i64 (p : Nat), .int .i64 (r : Nat)] (by simp [Act.eval]) (yA Tryz.func110 (by kernel_rfl) rfl) (HNu.out W4.drew) ?_
  rintro e wa ⟨rfl, d5⟩
  refine ⟨_, rfl, ?_⟩
  have qwa : Below W4.heap.size W4 wa := q0.trans (d5.mono q0.size)
  have hcwa := (bcell qwa).1
  have hHeldwa : (fun w' => w'.cell? ⟨w.heap.size, 0, none⟩ = some (.slice (some ⟨gp, 0, none⟩) y.pn cp) /\ w'.cell? ⟨w.heap.size, 1, none⟩ = some (.slice (some ⟨gs, 0, none⟩) y.sn cs) /\ w'.cell? ⟨w.heap.size, 2, none⟩ = some (.slice (some ⟨gw, 0, none⟩) y.wn cw) /\ w'.cell? ⟨w.heap.size, 3, none⟩ = some (.slice (some ⟨gh, 0, none⟩) y.hn ch) /\ w'.cell? ⟨w.heap.size + 1, 1, none⟩ = some (.int .i64 (r : Int)) /\ w'.cell? ⟨w.heap.size + 1, 2, none⟩ = some (.int .i64 v0) /\ w'.cell? ⟨gw, J, none⟩ = some (uw9 J)) wa := ⟨(hcwa _ _ m0).trans b0, (hcwa _ _ m0).trans b1, (hcwa _ _ m0).trans b2, (hcwa _ _ m0).trans b3, (hcwa _ _ mN).trans k1, (hcwa _ _ mN).trans k2, (hcwa _ _ lw).trans cellw⟩
  refine hK.out _ _ (fun _ => hHeldwa) ?_
  clear hK K d5
  (try simp only [Act.put, zD, zE, zF])
  refine wpG_one 11 rfl (by kernel_rfl) (fun K hK => ?_)
  refine stepR_call rfl 108 _ _ rfl #[sysV (some ⟨gp, 0, none⟩) y.pn cp (some ⟨gs, 0, none⟩) y.sn cs (some ⟨gw, 0, none⟩) y.wn cw (some ⟨gh, 0, none⟩) y.hn ch, .int .i64 (p : Nat), .int .i64 (r : Nat)] (by simp [Act.eval]) (yA Tryz.func108 (by kernel_rfl) rfl) (HQu.out wa qwa) ?_
  rintro e wb ⟨rfl, d5⟩
  refine ⟨_, rfl, ?_⟩
  have qwb : Below W4.heap.size W4 wb := qwa.trans (d5.mono qwa.size)
  have hcwb := (bcell qwb).1
  have hHeldwb : (fun w' => w'.cell? ⟨w.heap.size, 0, none⟩ = some (.slice (some ⟨gp, 0, none⟩) y.pn cp) /\ w'.cell? ⟨w.heap.size, 1, none⟩ = some (.slice (some ⟨gs, 0, none⟩) y.sn cs) /\ w'.cell? ⟨w.heap.size, 2, none⟩ = some (.slice (some ⟨gw, 0, none⟩) y.wn cw) /\ w'.cell? ⟨w.heap.size, 3, none⟩ = some (.slice (some ⟨gh, 0, none⟩) y.hn ch) /\ w'.cell? ⟨w.heap.size + 1, 1, none⟩ = some (.int .i64 (r : Int)) /\ w'.cell? ⟨w.heap.size + 1, 2, none⟩ = some (.int .i64 v0) /\ w'.cell? ⟨gw, J, none⟩ = some (uw9 J)) wb := ⟨(hcwb _ _ m0).trans b0, (hcwb _ _ m0).trans b1, (hcwb _ _ m0).trans b2, (hcwb _ _ m0).trans b3, (hcwb _ _ mN).trans k1, (hcwb _ _ mN).trans k2, (hcwb _ _ lw).trans cellw⟩
  refine hK.out _ _ (fun _ => hHeldwb) ?_
  clear hK K d5
  (try simp only [Act.put, zD, zE, zF])
  refine wpG_one 15 rfl (by kernel_rfl) (fun K hK => ?_)
  refine stepR_call rfl 109 _ _ rfl #[.agg #[.slice (adOf (uw9 J)) (y.wL J) (cpOf (uw9 J)), .int .i64 12], .agg #[.bool false, .int .i64 v0]] (by simp [Act.eval]) (yA Tryz.func109 (by kernel_rfl) rfl) (HWi.out wb qwb) ?_
  rintro e wd ⟨a6, c6, rfl, o6, n6, d6⟩
  refine ⟨_, rfl, ?_⟩
  have qwd : Below W4.heap.size W4 wd := qwb.trans (d6.mono qwb.size)
  have hcwd := (bcell qwd).1
  have hHeldwd : (fun w' => w'.cell? ⟨w.heap.size, 0, none⟩ = some (.slice (some ⟨gp, 0, none⟩) y.pn cp) /\ w'.cell? ⟨w.heap.size, 1, none⟩ = some (.slice (some ⟨gs, 0, none⟩) y.sn cs) /\ w'.cell? ⟨w.heap.size, 2, none⟩ = some (.slice (some ⟨gw, 0, none⟩) y.wn cw) /\ w'.cell? ⟨w.heap.size, 3, none⟩ = some (.slice (some ⟨gh, 0, none⟩) y.hn ch) /\ w'.cell? ⟨w.heap.size + 1, 1, none⟩ = some (.int .i64 (r : Int)) /\ w'.cell? ⟨w.heap.size + 1, 2, none⟩ = some (.int .i64 v0) /\ w'.cell? ⟨gw, J, none⟩ = some (uw9 J)) wd := ⟨(hcwd _ _ m0).trans b0, (hcwd _ _ m0).trans b1, (hcwd _ _ m0).trans b2, (hcwd _ _ m0).trans b3, (hcwd _ _ mN).trans k1, (hcwd _ _ mN).trans k2, (hcwd _ _ lw).trans cellw⟩
  replace o6 := o6.mono qwb.size
  have hfw : ∀ j, wd.frozen? ⟨gw, j, none⟩ = false := fun j => ((bcell qwd).2 _ j lw).trans (fw j)
  have H3 : Hid (Hp z w B c k (r : Int) v0 ((y.evt p k (r : Int) v0).setW J (y.wL J + 1) (fun i => if i = y.wL J then ⟨false, v0⟩ else y.wH J i)) (.slice (some ⟨gp, 0, none⟩) y.pn cp) (.slice (some ⟨gs, 0, none⟩) y.sn cs) (.slice (some ⟨gw, 0, none⟩) y.wn cw) (.slice (some ⟨gh, 0, none⟩) y.hn ch) (wd.setCell ⟨gw, J, none⟩ (.slice a6 (y.wL J + 1) c6))) := H2.out.putW hB hJ qwd o6 n6
  refine hK.out _ _ (fun _ => hHeldwd) ?_
  clear hHeld
  have hHeld := hHeldwd
  clear hK K
  (try simp only [Act.put, zD, zE, zF])
  refine wpG_take 16 rfl hHeld ?_
  apply Exists.intro
  refine ⟨fun wq hSw => ?_, ?_⟩
  ·(try dsimp only at hSw)
   go_simp
   try with_reducible rfl
  (try simp only [Act.put, zD, zE, zF])
  refine wpG_one 17 rfl (by kernel_rfl) (fun K hK => ?_)
  have hcN := hHeld.2.2.2.2.2.2
  have hfN := hfw J
  go_simp
  refine hK.out _ _ (fun h => ?_) ?_
  ·exact absurd h (by decide)
  clear hK K
  (try simp only [Act.put, zD, zE, zF])
  refine wpG_done (by kernel_rfl) ?_ _
  clear hcN hfN hHeld hfw
  go_wp2_with fail
  go_end0
  exact ⟨rfl, H3.out.be, H3.out.kp, by
   rw [HY.out]
   exact H3.out.own⟩
 rcases zK (k == 3) with t3 | t3
 ·have hk : k = 3 := by simpa using t3
  obtain ⟨g1, g2, g3⟩ := HK3.out hk
  obtain ⟨r, rfl⟩ : ∃ r : Nat, q = r := ⟨q.toNat, by omega⟩
  rw [Int.toNat_natCast] at g3
  have hr : r < y.pn := by omega
  have hJ : r * y.pn + p < y.wn := by rw [HN.out.2.2]; exact way_lt hr hp
  have h12 : y.wL (r * y.pn + p) <= 12 := HWY.out r p hr hp
  have hr4 : r < 4 := by omega
  have hp4 : p < 4 := by omega
  have HY : Hid ((y.evt p k (r : Int) v0).way p k (r : Int) v0 = (y.evt p k (r : Int) v0).setW (r * y.pn + p) (y.wL (r * y.pn + p) - 1) (fun i => y.wH (r * y.pn + p) (i + 1))) := by
   show (y.evt p k (r : Int) v0).way p k (r : Int) v0 = _
   rw [show (y.evt p k (r : Int) v0).way p k (r : Int) v0 = (y.evt p k (r : Int) v0).way p 3 (r : Int) v0 by rw [hk], Sy.way_take]
   rfl
  have HNu0 : ∀ x : SysIn, x.pn = y.pn -> ∀ wx, Calls Tryz.prog 110 #[x.v, .int .i64 r, .int .i64 p] wx fun e w' => e = .returned (.int .i64 (r * y.pn + p : Nat)) /\ Below wx.heap.size wx w' := fun x e wx => by
   have h := wayNumber_any x r p wx hr4 hp4 (by omega)
   rw [e] at h
   exact h
  have HQu0 : ∀ x : SysIn, x.pn = y.pn -> ∀ wx, SysG wx x -> r * y.pn + p < x.wn -> Calls Tryz.prog 108 #[x.v, .int .i64 r, .int .i64 p] wx fun e w' => e = .returned (.agg #[.slice (x.wA (r * y.pn + p)) (x.wL (r * y.pn + p)) (x.wC (r * y.pn + p)), .int .i64 12]) /\ Below wx.heap.size wx w' := fun x e wx hg hw => by
   have h := wayQueue_any x r p wx hg hr4 hp4 (by omega) (by rw [e]; exact hw)
   rw [e] at h
   exact h
  generalize r * y.pn + p = J at *
  have hJ' : (J : Int) < (y.wn : Int) := by omega
  obtain ⟨c9, up9, us9, uw9, uh9, o9, -, -, -⟩ := H2.out.ow
  obtain ⟨b0, b1, b2, b3⟩ := H2.out.bx
  obtain ⟨k0, k1, k2, kf⟩ := id H2.out.ev
  have m0 := H2.out.bx.ltM
  have mN := H2.out.ev.lt
  have OT9 : LT z W4 (Cl B c9 3) (.slice (some ⟨gw, 0, none⟩) y.wn cw) y.wn uw9 y.wL y.wH := o9.t
  obtain ⟨g9, k9, ew, -, lw, cellw, fw⟩ := OT9.cell hJ
  simp only [Value.slice.injEq, Option.some.injEq, Addr.mk.injEq, and_true, true_and] at ew
  obtain ⟨rfl, rfl⟩ := ew
  obtain ⟨bw, cbw, euw, hbw, hIt, hcapw⟩ := atT (OT9.own J hJ) ((nil_or (OT9.own J hJ)).resolve_left (by omega))
  have hcm : cbw <= maxLen := by
   have h := OT9.own J hJ
   rw [euw] at h
   exact ownsRow_cap h
  have HNu : Hid (∀ wx, Calls Tryz.prog 110 #[sysV (some ⟨gp, 0, none⟩) y.pn cp (some ⟨gs, 0, none⟩) y.sn cs (some ⟨gw, 0, none⟩) y.wn cw (some ⟨gh, 0, none⟩) y.hn ch, .int .i64 r, .int .i64 p] wx fun e w' => e = .returned (.int .i64 (J : Nat)) /\ Below wx.heap.size wx w') := fun wx => by
   have h := HNu0 ((y.evt p k (r : Int) v0).sysIn (.slice (some ⟨gp, 0, none⟩) y.pn cp) (.slice (some ⟨gs, 0, none⟩) y.sn cs) (.slice (some ⟨gw, 0, none⟩) y.wn cw) (.slice (some ⟨gh, 0, none⟩) y.hn ch) up9 us9 uw9 uh9) rfl wx
   rw [o9.v] at h
   exact h
  have HQu : Hid (∀ wx, Below W4.heap.size W4 wx -> Calls Tryz.prog 108 #[sysV (some ⟨gp, 0, none⟩) y.pn cp (some ⟨gs, 0, none⟩) y.sn cs (some ⟨gw, 0, none⟩) y.wn cw (some ⟨gh, 0, none⟩) y.hn ch, .int .i64 r, .int .i64 p] wx fun e w' => e = .returned (.agg #[.slice (some ⟨bw, 0, none⟩) (y.wL J) cbw, .int .i64 12]) /\ Below wx.heap.size wx w') := fun wx hb => by
   have h := HQu0 ((y.evt p k (r : Int) v0).sysIn (.slice (some ⟨gp, 0, none⟩) y.pn cp) (.slice (some ⟨gs, 0, none⟩) y.sn cs) (.slice (some ⟨gw, 0, none⟩) y.wn cw) (.slice (some ⟨gh, 0, none⟩) y.hn ch) up9 us9 uw9 uh9) rfl wx (o9.g.below hb) hJ
   rw [o9.v] at h
   refine h.mono fun e w' hh => ⟨hh.1.trans ?_, hh.2⟩
   show Ending.returned (.agg #[.slice (adOf (uw9 J)) (y.wL J) (cpOf (uw9 J)), .int .i64 12]) = _
   rw [euw]
   rfl
  have HWi : Hid (∀ wx, Below W4.heap.size W4 wx -> Calls Tryz.prog 111 #[.agg #[.slice (some ⟨bw, 0, none⟩) (y.wL J) cbw, .int .i64 12]] wx fun e w' => ∃ a c, e = .returned (.slice a (y.wL J - 1) c) /\ w'.ownsRow wx.heap.size 126 2 (.slice a (y.wL J - 1) c) (y.wL J - 1) (fT (fun i => y.wH J (i + 1)) (y.wL J - 1)) /\ Value.slice a (y.wL J - 1) c ≠ .slice none 0 0 /\ Below wx.heap.size wx w') := fun wx hb => restItem_own bw (y.wL J) cbw 12 (y.wH J) wx (by omega) (by omega) hcapw hcm (zL hbw hb.size) (hIt.below hb hbw)
  clear HNu0 HQu0 o9 OT9 hk hIt
  go_upto_region 7 with fail
  refine wp_region_G (fun w' => w'.cell? ⟨w.heap.size, 0, none⟩ = some (.slice (some ⟨gp, 0, none⟩) y.pn cp) /\ w'.cell? ⟨w.heap.size, 1, none⟩ = some (.slice (some ⟨gs, 0, none⟩) y.sn cs) /\ w'.cell? ⟨w.heap.size, 2, none⟩ = some (.slice (some ⟨gw, 0, none⟩) y.wn cw) /\ w'.cell? ⟨w.heap.size, 3, none⟩ = some (.slice (some ⟨gh, 0, none⟩) y.hn ch) /\ w'.cell? ⟨w.heap.size + 1, 1, none⟩ = some (.int .i64 (r : Int)) /\ w'.cell? ⟨w.heap.size + 1, 2, none⟩ = some (.int .i64 v0) /\ w'.cell? ⟨gw, J, none⟩ = some (uw9 J)) (fun i => i == 14) (by kernel_rfl) ?_
  have hHeld : (fun w' => w'.cell? ⟨w.heap.size, 0, none⟩ = some (.slice (some ⟨gp, 0, none⟩) y.pn cp) /\ w'.cell? ⟨w.heap.size, 1, none⟩ = some (.slice (some ⟨gs, 0, none⟩) y.sn cs) /\ w'.cell? ⟨w.heap.size, 2, none⟩ = some (.slice (some ⟨gw, 0, none⟩) y.wn cw) /\ w'.cell? ⟨w.heap.size, 3, none⟩ = some (.slice (some ⟨gh, 0, none⟩) y.hn ch) /\ w'.cell? ⟨w.heap.size + 1, 1, none⟩ = some (.int .i64 (r : Int)) /\ w'.cell? ⟨w.heap.size + 1, 2, none⟩ = some (.int .i64 v0) /\ w'.cell? ⟨gw, J, none⟩ = some (uw9 J)) W4.drew := ⟨b0, b1, b2, b3, k1, k2, cellw⟩
  have q0 : Below W4.heap.size W4 W4.drew := (Below.refl W4.heap.size W4).drew
  refine wpGT_of [0, 1, 2, 3, 4, 5, 7, 8, 9, 10] ?_
  iterate 10 (refine wpGT_take rfl hHeld ?_; apply Exists.intro; refine ⟨fun wq hSw => ?_, ?_⟩; (· ((try dsimp only at hSw); go_simp; try with_reducible rfl)); (try simp only [Act.put, zD, zE, zF]))
  refine wpGT_nil ?_
  refine wpG_one 6 rfl (by kernel_rfl) (fun K hK => ?_)
  refine stepR_call rfl 110 _ _ rfl #[sysV (some ⟨gp, 0, none⟩) y.pn cp (some ⟨gs, 0, none⟩) y.sn cs (some ⟨gw, 0, none⟩) y.wn cw (some ⟨gh, 0, none⟩) y.hn ch, .int .i64 (r : Nat), .int .i64 (p : Nat)] (by simp [Act.eval]) (yA Tryz.func110 (by kernel_rfl) rfl) (HNu.out W4.drew) ?_
  rintro e wa ⟨rfl, d5⟩
  refine ⟨_, rfl, ?_⟩
  have qwa : Below W4.heap.size W4 wa := q0.trans (d5.mono q0.size)
  have hcwa := (bcell qwa).1
  have hHeldwa : (fun w' => w'.cell? ⟨w.heap.size, 0, none⟩ = some (.slice (some ⟨gp, 0, none⟩) y.pn cp) /\ w'.cell? ⟨w.heap.size, 1, none⟩ = some (.slice (some ⟨gs, 0, none⟩) y.sn cs) /\ w'.cell? ⟨w.heap.size, 2, none⟩ = some (.slice (some ⟨gw, 0, none⟩) y.wn cw) /\ w'.cell? ⟨w.heap.size, 3, none⟩ = some (.slice (some ⟨gh, 0, none⟩) y.hn ch) /\ w'.cell? ⟨w.heap.size + 1, 1, none⟩ = some (.int .i64 (r : Int)) /\ w'.cell? ⟨w.heap.size + 1, 2, none⟩ = some (.int .i64 v0) /\ w'.cell? ⟨gw, J, none⟩ = some (uw9 J)) wa := ⟨(hcwa _ _ m0).trans b0, (hcwa _ _ m0).trans b1, (hcwa _ _ m0).trans b2, (hcwa _ _ m0).trans b3, (hcwa _ _ mN).trans k1, (hcwa _ _ mN).trans k2, (hcwa _ _ lw).trans cellw⟩
  refine hK.out _ _ (fun _ => hHeldwa) ?_
  clear hK K d5
  (try simp only [Act.put, zD, zE, zF])
  refine wpG_one 11 rfl (by kernel_rfl) (fun K hK => ?_)
  refine stepR_call rfl 108 _ _ rfl #[sysV (some ⟨gp, 0, none⟩) y.pn cp (some ⟨gs, 0, none⟩) y.sn cs (some ⟨gw, 0, none⟩) y.wn cw (some ⟨gh, 0, none⟩) y.hn ch, .int .i64 (r : Nat), .int .i64 (p : Nat)] (by simp [Act.eval]) (yA Tryz.func108 (by kernel_rfl) rfl) (HQu.out wa qwa) ?_
  rintro e wb ⟨rfl, d5⟩
  refine ⟨_, rfl, ?_⟩
  have qwb : Below W4.heap.size W4 wb := qwa.trans (d5.mono qwa.size)
  have hcwb := (bcell qwb).1
  have hHeldwb : (fun w' => w'.cell? ⟨w.heap.size, 0, none⟩ = some (.slice (some ⟨gp, 0, none⟩) y.pn cp) /\ w'.cell? ⟨w.heap.size, 1, none⟩ = some (.slice (some ⟨gs, 0, none⟩) y.sn cs) /\ w'.cell? ⟨w.heap.size, 2, none⟩ = some (.slice (some ⟨gw, 0, none⟩) y.wn cw) /\ w'.cell? ⟨w.heap.size, 3, none⟩ = some (.slice (some ⟨gh, 0, none⟩) y.hn ch) /\ w'.cell? ⟨w.heap.size + 1, 1, none⟩ = some (.int .i64 (r : Int)) /\ w'.cell? ⟨w.heap.size + 1, 2, none⟩ = some (.int .i64 v0) /\ w'.cell? ⟨gw, J, none⟩ = some (uw9 J)) wb := ⟨(hcwb _ _ m0).trans b0, (hcwb _ _ m0).trans b1, (hcwb _ _ m0).trans b2, (hcwb _ _ m0).trans b3, (hcwb _ _ mN).trans k1, (hcwb _ _ mN).trans k2, (hcwb _ _ lw).trans cellw⟩
  refine hK.out _ _ (fun _ => hHeldwb) ?_
  clear hK K d5
  (try simp only [Act.put, zD, zE, zF])
  refine wpG_one 12 rfl (by kernel_rfl) (fun K hK => ?_)
  refine stepR_call rfl 111 _ _ rfl #[.agg #[.slice (some ⟨bw, 0, none⟩) (y.wL J) cbw, .int .i64 12]] (by simp [Act.eval]) (yA Tryz.func111 (by kernel_rfl) rfl) (HWi.out wb qwb) ?_
  rintro e wd ⟨a6, c6, rfl, o6, n6, d6⟩
  refine ⟨_, rfl, ?_⟩
  have qwd : Below W4.heap.size W4 wd := qwb.trans (d6.mono qwb.size)
  have hcwd := (bcell qwd).1
  have hHeldwd : (fun w' => w'.cell? ⟨w.heap.size, 0, none⟩ = some (.slice (some ⟨gp, 0, none⟩) y.pn cp) /\ w'.cell? ⟨w.heap.size, 1, none⟩ = some (.slice (some ⟨gs, 0, none⟩) y.sn cs) /\ w'.cell? ⟨w.heap.size, 2, none⟩ = some (.slice (some ⟨gw, 0, none⟩) y.wn cw) /\ w'.cell? ⟨w.heap.size, 3, none⟩ = some (.slice (some ⟨gh, 0, none⟩) y.hn ch) /\ w'.cell? ⟨w.heap.size + 1, 1, none⟩ = some (.int .i64 (r : Int)) /\ w'.cell? ⟨w.heap.size + 1, 2, none⟩ = some (.int .i64 v0) /\ w'.cell? ⟨gw, J, none⟩ = some (uw9 J)) wd := ⟨(hcwd _ _ m0).trans b0, (hcwd _ _ m0).trans b1, (hcwd _ _ m0).trans b2, (hcwd _ _ m0).trans b3, (hcwd _ _ mN).trans k1, (hcwd _ _ mN).trans k2, (hcwd _ _ lw).trans cellw⟩
  replace o6 := o6.mono qwb.size
  have hfw : ∀ j, wd.frozen? ⟨gw, j, none⟩ = false := fun j => ((bcell qwd).2 _ j lw).trans (fw j)
  have H3 : Hid (Hp z w B c k (r : Int) v0 ((y.evt p k (r : Int) v0).setW J (y.wL J - 1) (fun i => y.wH J (i + 1))) (.slice (some ⟨gp, 0, none⟩) y.pn cp) (.slice (some ⟨gs, 0, none⟩) y.sn cs) (.slice (some ⟨gw, 0, none⟩) y.wn cw) (.slice (some ⟨gh, 0, none⟩) y.hn ch) (wd.setCell ⟨gw, J, none⟩ (.slice a6 (y.wL J - 1) c6))) := H2.out.putW hB hJ qwd o6 n6
  refine hK.out _ _ (fun _ => hHeldwd) ?_
  clear hHeld
  have hHeld := hHeldwd
  clear hK K
  (try simp only [Act.put, zD, zE, zF])
  refine wpG_take 13 rfl hHeld ?_
  apply Exists.intro
  refine ⟨fun wq hSw => ?_, ?_⟩
  ·(try dsimp only at hSw)
   go_simp
   try with_reducible rfl
  (try simp only [Act.put, zD, zE, zF])
  refine wpG_one 14 rfl (by kernel_rfl) (fun K hK => ?_)
  have hcN := hHeld.2.2.2.2.2.2
  have hfN := hfw J
  go_simp
  refine hK.out _ _ (fun h => ?_) ?_
  ·exact absurd h (by decide)
  clear hK K
  (try simp only [Act.put, zD, zE, zF])
  refine wpG_done (by kernel_rfl) ?_ _
  clear hcN hfN hHeld hfw
  go_wp2_with fail
  go_end0
  exact ⟨rfl, H3.out.be, H3.out.kp, by
   rw [HY.out]
   exact H3.out.own⟩
 ·have hk2 : k ≠ 2 := by simpa using t2
  have hk3 : k ≠ 3 := by simpa using t3
  have HY : Hid ((y.evt p k q v0).way p k q v0 = y.evt p k q v0) := Sy.way_no _ p hk2 hk3 q v0
  obtain ⟨k0, k1, k2, kf⟩ := H2.out.ev
  clear hk2 hk3
  go_wp2_with fail
  go_end0
  exact ⟨rfl, H2.out.be, H2.out.kp, by
   rw [HY.out]
   exact H2.out.own⟩
end Go.Proofs.YtcplnkhdclcgfaaGreatDoor
