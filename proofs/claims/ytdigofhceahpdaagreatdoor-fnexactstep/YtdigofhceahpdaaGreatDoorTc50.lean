/- Proved: called with whatever system and two numbers, the program's Step answers as the model's Step, field by field, writes into no argument, and its answer is its own. One condition, tied to the program's text: errors.errorType holds what its text lays. -/
import Derived.Test.YtdigofhceahpdaaGreatDoorTc0
import Derived.Test.YtdigofhceahpdaaGreatDoorTc48
import Derived.Test.YtdigofhceahpdaaGreatDoorTc46
import Derived.Test.YtdigofhceahpdaaGreatDoorTc34
import Derived.Test.YtdigofhceahpdaaGreatDoorTc35
import Derived.Test.YtdigofhceahpdaaGreatDoorTc49
import Derived.Test.YtdigofhceahpdaaGreatDoorTc41
import Derived.Test.YtdigofhceahpdaaGreatDoorTc8
import Derived.Test.YtdigofhceahpdaaGreatDoorCards
import Derived.SevenTiedAt
namespace Go.Proofs.YtdigofhceahpdaaGreatDoor
set_option maxRecDepth 100000
set_option maxHeartbeats 20000000
open Go.ChangeShapes Go.WideShapes Go.ChangeAt Go.RowKit Go.Deep
structure Hp (w : World) (B : Nat) (c0 : Nat → Nat) (k q v : Int) (y : Sy) (vp vs vw vh : Value) (wx : World) : Prop where
 be : Below B w wx
 bx : BoxC wx w.heap.size vp vs vw vh
 ev : EvK wx (w.heap.size + 1) k q v
 kp : ∀ b, b < w.heap.size → c0 b = 0 → wx.heap[b]? = w.heap[b]?
 ow : ∃ c up us uw uh, OwnS wx B c y vp vs vw vh up us uw uh ∧ c w.heap.size = 0 ∧ c (w.heap.size + 1) = 0 ∧ ∀ b, b < w.heap.size → c b = c0 b
theorem Sy.Ok.lens {y : Sy} (h : y.Ok) {p : Nat} (hp : p < y.pn) : y.pL p ≤ maxLen ∧ (y.sS p).rs.length ≤ 1048576 ∧ (y.sS p).os.length ≤ 1048576 := by
 have h1 := h.four hp
 simp only [progOkB, Bool.and_eq_true, inB, decide_eq_true_eq] at h1
 obtain ⟨⟨r0, r1, r2, r3, e, -⟩, -, h60, -⟩ := st_parts (h.st hp)
 refine ⟨?_, by rw [e]; simp, by omega⟩
 have := h1.2.1
 unfold maxLen
 omega
theorem ownsRow_cap {w : World} {B sz n m c : Nat} {e : TypeId} {a : Option Addr} {xs : List Value} (h : w.ownsRow B e sz (.slice a n c) m xs) : c ≤ maxLen := by
 rcases h.2 with ⟨e, -⟩ | ⟨g, cap, cur, e, -, -, -, hc, -⟩
 ·simp only [Value.slice.injEq] at e
  omega
 ·simp only [Value.slice.injEq] at e
  omega
theorem Hp.le {w wx : World} {B : Nat} {c0 : Nat → Nat} {k q v : Int} {y : Sy} {vp vs vw vh : Value} (h : Hp w B c0 k q v y vp vs vw vh wx) (hB : B ≤ w.heap.size) : B ≤ wx.heap.size := Nat.le_trans hB (Nat.le_of_lt h.bx.ltM)
theorem col_ne {c : Nat → Nat} {a b i j : Nat} (ha : c a = i) (hb : c b = j) (h : i ≠ j) : a ≠ b := fun e => h (by rw [← ha, ← hb, e])
theorem Hp.putW {w wx w1 : World} {B g cap : Nat} {c0 : Nat → Nat} {k q v : Int} {y : Sy} {vp vs vh : Value} (h : Hp w B c0 k q v y vp vs (.slice (some ⟨g, 0, none⟩) y.wn cap) vh wx) (hB : B ≤ w.heap.size) {J m : Nat} {u' : Value} {H' : Nat → I2} (hJ : J < y.wn) (b1 : Below wx.heap.size wx w1) (hu : w1.ownsRow wx.heap.size 122 2 u' m (fT H' m)) (hne : u' ≠ .slice none 0 0) :
  Hp w B c0 k q v (y.setW J m H') vp vs (.slice (some ⟨g, 0, none⟩) y.wn cap) vh (w1.setCell ⟨g, J, none⟩ u') := by
 obtain ⟨c, up, us, uw, uh, o, z0, z1, zc⟩ := h.ow
 have hg := o.t.rb g rfl
 have hz : ∀ b, c b = 0 → b < wx.heap.size → (w1.setCell ⟨g, J, none⟩ u').heap[b]? = wx.heap[b]? := fun b hb hl => (Below.heap_setCell _ _ _ _ (col_ne hb hg.2 (by decide))).trans (b1.block b hl)
 have hW := h.le hB
 exact ⟨(h.be.trans (b1.mono hW)).setCell hg.1 _, h.bx.blkM (hz _ z0 h.bx.ltM), h.ev.blk (hz _ z1 h.ev.lt), fun j hj hc => (hz j ((zc j hj).trans hc) (Nat.lt_trans hj h.bx.ltM)).trans (h.kp j hj hc), _, up, us, _, uh, o.putW hJ hW b1.size (fun b hb _ => b1.block b hb) (ownsRow_base0 hu) hne (fun b hb => .inr (hu.lt b hb).1), (rcol_old h.bx.ltM).trans z0, (rcol_old h.ev.lt).trans z1, fun j hj => (rcol_old (Nat.lt_trans hj h.bx.ltM)).trans (zc j hj)⟩
theorem Hp.putH {w wx w1 : World} {B g cap : Nat} {c0 : Nat → Nat} {k q v : Int} {y : Sy} {vp vs vw : Value} (h : Hp w B c0 k q v y vp vs vw (.slice (some ⟨g, 0, none⟩) y.hn cap) wx) (hB : B ≤ w.heap.size) {J m : Nat} {u' : Value} {H' : Nat → E3} (hJ : J < y.hn) (b1 : Below wx.heap.size wx w1) (hu : w1.ownsRow wx.heap.size 77 3 u' m (fE H' m)) (hne : u' ≠ .slice none 0 0) :
  Hp w B c0 k q v (y.setH J m H') vp vs vw (.slice (some ⟨g, 0, none⟩) y.hn cap) (w1.setCell ⟨g, J, none⟩ u') := by
 obtain ⟨c, up, us, uw, uh, o, z0, z1, zc⟩ := h.ow
 have hg := o.h.rb g rfl
 have hz : ∀ b, c b = 0 → b < wx.heap.size → (w1.setCell ⟨g, J, none⟩ u').heap[b]? = wx.heap[b]? := fun b hb hl => (Below.heap_setCell _ _ _ _ (col_ne hb hg.2 (by decide))).trans (b1.block b hl)
 have hW := h.le hB
 exact ⟨(h.be.trans (b1.mono hW)).setCell hg.1 _, h.bx.blkM (hz _ z0 h.bx.ltM), h.ev.blk (hz _ z1 h.ev.lt), fun j hj hc => (hz j ((zc j hj).trans hc) (Nat.lt_trans hj h.bx.ltM)).trans (h.kp j hj hc), _, up, us, uw, _, o.putH hJ hW b1.size (fun b hb _ => b1.block b hb) (ownsRow_base0 hu) hne (fun b hb => .inr (hu.lt b hb).1), (rcol_old h.bx.ltM).trans z0, (rcol_old h.ev.lt).trans z1, fun j hj => (rcol_old (Nat.lt_trans hj h.bx.ltM)).trans (zc j hj)⟩
theorem Hp.putS {w wx w1 : World} {B g cap : Nat} {c0 : Nat → Nat} {k q v : Int} {y : Sy} {vp vw vh : Value} (h : Hp w B c0 k q v y vp (.slice (some ⟨g, 0, none⟩) y.sn cap) vw vh wx) (hB : B ≤ w.heap.size) {i : Nat} (hi : i < y.sn) {ra oa : Option Addr} {rn rc on oc : Nat} {p code : Int} {T : S4} (b1 : Below wx.heap.size wx w1) (hu : StOwn w1 wx.heap.size (stV p ra rn rc oa on oc code) T.p T.rs T.os T.c) :
  Hp w B c0 k q v (y.setS i T) vp (.slice (some ⟨g, 0, none⟩) y.sn cap) vw vh ((((w1.setCell ⟨g, i * 4, none⟩ (.int .i64 p)).setCell ⟨g, i * 4 + 1, none⟩ (.slice ra rn rc)).setCell ⟨g, i * 4 + 2, none⟩ (.slice oa on oc)).setCell ⟨g, i * 4 + 3, none⟩ (.int .i64 code)) := by
 obtain ⟨c, up, us, uw, uh, o, z0, z1, zc⟩ := h.ow
 have hg := o.s.rb g rfl
 have hz : ∀ b, c b = 0 → b < wx.heap.size → ((((w1.setCell ⟨g, i * 4, none⟩ (.int .i64 p)).setCell ⟨g, i * 4 + 1, none⟩ (.slice ra rn rc)).setCell ⟨g, i * 4 + 2, none⟩ (.slice oa on oc)).setCell ⟨g, i * 4 + 3, none⟩ (.int .i64 code)).heap[b]? = wx.heap[b]? := fun b hb hl => by
  have hn := col_ne hb hg.2 (by decide)
  exact ((Below.heap_setCell _ _ _ _ hn).trans ((Below.heap_setCell _ _ _ _ hn).trans ((Below.heap_setCell _ _ _ _ hn).trans (Below.heap_setCell _ _ _ _ hn)))).trans (b1.block b hl)
 have hW := h.le hB
 exact ⟨((((h.be.trans (b1.mono hW)).setCell hg.1 _).setCell hg.1 _).setCell hg.1 _).setCell hg.1 _, h.bx.blkM (hz _ z0 h.bx.ltM), h.ev.blk (hz _ z1 h.ev.lt), fun j hj hc => (hz j ((zc j hj).trans hc) (Nat.lt_trans hj h.bx.ltM)).trans (h.kp j hj hc), _, up, _, uw, uh, o.putS hi hW b1 hu, (rcol_old h.bx.ltM).trans z0, (rcol_old h.ev.lt).trans z1, fun j hj => (rcol_old (Nat.lt_trans hj h.bx.ltM)).trans (zc j hj)⟩
theorem Hp.own {w wx : World} {B : Nat} {c0 : Nat → Nat} {k q v : Int} {y : Sy} {vp vs vw vh : Value} (h : Hp w B c0 k q v y vp vs vw vh wx) : OwnSys wx B y (.agg #[vp, vs, vw, vh]) := by
 obtain ⟨c, up, us, uw, uh, o, -, -, -⟩ := h.ow
 exact ⟨c, vp, vs, vw, vh, up, us, uw, uh, rfl, o⟩
theorem happen_any (y : Sy) (p : Nat) (k q v0 : Int) (w : World) (B : Nat) (c : Nat → Nat) (vp vs vw vh : Value) (up us uw uh : Nat → Value) (o : OwnS w B c y vp vs vw vh up us uw uh) (hB : B ≤ w.heap.size) (hO : y.Ok) (hp : p < y.pn) (hk2 : k = 2 → 0 ≤ q ∧ q < y.pn) (hk3 : k = 3 → 0 ≤ q ∧ q < y.pn ∧ 0 < y.wL (q.toNat * y.pn + p)) :
  Calls Tryz.prog 51 #[.agg #[vp, vs, vw, vh], .int .i64 p, evV k q v0] w fun e w' => e = .returned (.tuple #[]) ∧ Below B w w' ∧ (∀ b, b < w.heap.size → c b = 0 → w'.heap[b]? = w.heap[b]?) ∧ OwnSys w' B ((y.evt p k q v0).way p k q v0) (.agg #[vp, vs, vw, vh]) := by
 obtain ⟨⟨h1, h4⟩, hs, hh, hw⟩ := hO.cn
 have hps : p < y.sn := by omega
 have hph : p < y.hn := by omega
 have hw0 : 0 < y.wn := by rw [hw]; exact Nat.mul_pos (by omega) (by omega)
 obtain ⟨gp, cp, rfl, -, -, -, -⟩ := o.p.cell hp
 obtain ⟨gs, cs, rfl, -, -, -, -⟩ := o.s.cell hps
 obtain ⟨gh, ch, rfl, -, -, -, -⟩ := o.h.cell hph
 obtain ⟨gw, cw, rfl, -, -, -, -⟩ := o.t.cell hw0
 have hL200 : y.hL p ≤ 200 := hO.le200 hp
 have HP4 : Hid (progOkB (y.pH p) (y.pL p) 4 = true) := hO.four hp
 have HST : Hid (OkS (y.pL p) (y.sS p)) := hO.st hp
 have HLn : Hid (y.pL p ≤ maxLen ∧ (y.sS p).rs.length ≤ 1048576 ∧ (y.sS p).os.length ≤ 1048576) := hO.lens hp
 have HWY : Hid (∀ a b, a < y.pn → b < y.pn → y.wL (a * y.pn + b) ≤ 12) := fun a b ha hb => hO.way ha hb
 have HK2 : Hid (k = 2 → 0 ≤ q ∧ q < y.pn) := hk2
 have HK3 : Hid (k = 3 → 0 ≤ q ∧ q < y.pn ∧ 0 < y.wL (q.toNat * y.pn + p)) := hk3
 have HN : Hid (y.sn = y.pn ∧ y.hn = y.pn ∧ y.wn = y.pn * y.pn) := ⟨hs, hh, hw⟩
 have hp' : (p : Int) < (y.pn : Int) := by omega
 have hps' : (p : Int) < (y.sn : Int) := by omega
 have hph' : (p : Int) < (y.hn : Int) := by omega
 have H0 : Hid (Hp w B c k q v0 y (.slice (some ⟨gp, 0, none⟩) y.pn cp) (.slice (some ⟨gs, 0, none⟩) y.sn cs) (.slice (some ⟨gw, 0, none⟩) y.wn cw) (.slice (some ⟨gh, 0, none⟩) y.hn ch) ((w.alloc (oQ4 (some ⟨gp, 0, none⟩) y.pn cp (some ⟨gs, 0, none⟩) y.sn cs (some ⟨gw, 0, none⟩) y.wn cw (some ⟨gh, 0, none⟩) y.hn ch)).alloc (oQ1 k q v0))) := by
  have b1 := below_allocL w (oQ4 (some ⟨gp, 0, none⟩) y.pn cp (some ⟨gs, 0, none⟩) y.sn cs (some ⟨gw, 0, none⟩) y.wn cw (some ⟨gh, 0, none⟩) y.hn ch)
  have b2 := below_allocL (w.alloc (oQ4 (some ⟨gp, 0, none⟩) y.pn cp (some ⟨gs, 0, none⟩) y.sn cs (some ⟨gw, 0, none⟩) y.wn cw (some ⟨gh, 0, none⟩) y.hn ch)) (oQ1 k q v0)
  have b := b1.trans (b2.mono b1.size)
  exact ⟨b.mono hB, (BoxC.new w _ _ _ _ _).below b2, by simpa using EvK.new (w.alloc (oQ4 (some ⟨gp, 0, none⟩) y.pn cp (some ⟨gs, 0, none⟩) y.sn cs (some ⟨gw, 0, none⟩) y.wn cw (some ⟨gh, 0, none⟩) y.hn ch)) k q v0 77, fun j hj _ => b.block j hj, _, up, us, uw, uh, (o.recol 0).below b, rcol_new (Nat.le_refl _), rcol_new (Nat.le_succ _), fun j hj => rcol_old hj⟩
 clear o hO hk2 hk3 hw0 hs hh hw
 go_enter Tryz.func51, Tryz.ntmps51
 go_upto_region 1 with fail
 generalize (w.alloc (oQ4 (some ⟨gp, 0, none⟩) y.pn cp (some ⟨gs, 0, none⟩) y.sn cs (some ⟨gw, 0, none⟩) y.wn cw (some ⟨gh, 0, none⟩) y.hn ch)).alloc (oQ1 k q v0) = W2 at *
 obtain ⟨c9, up9, us9, uw9, uh9, o9, -, -, -⟩ := H0.out.ow
 obtain ⟨b0, b1, b2, b3⟩ := H0.out.bx
 obtain ⟨k0, k1, k2, kf⟩ := id H0.out.ev
 have m0 := H0.out.bx.ltM
 have mN := H0.out.ev.lt
 obtain ⟨g9, k9, ew, -, lp, cellp, -⟩ := o9.p.cell hp
 simp only [Value.slice.injEq, Option.some.injEq, Addr.mk.injEq, and_true, true_and] at ew
 obtain ⟨rfl, rfl⟩ := ew
 obtain ⟨b9, cb9, eup, hb9, hI, -⟩ := atI (o9.p.own p hp) (o9.p.nn p hp)
 rw [eup] at cellp
 obtain ⟨g9, k9, ew, -, ls, cels, fs⟩ := o9.s.cell hps
 simp only [Value.slice.injEq, Option.some.injEq, Addr.mk.injEq, and_true, true_and] at ew
 obtain ⟨rfl, rfl⟩ := ew
 obtain ⟨ra9, rc9, oa9, oc9, eus, s0, s1, s2, s3⟩ := cels
 have hsl : Sl W2 ra9 (y.sS p).rs ∧ Sl W2 oa9 (y.sS p).os := by
  have h4 := o9.s.own p hps
  rw [eus] at h4
  exact ⟨h4.parts.1.slOf, h4.parts.2.1.slOf⟩
 clear eup eus
 refine wp_region_G (fun w' => w'.cell? ⟨w.heap.size, 0, none⟩ = some (.slice (some ⟨gp, 0, none⟩) y.pn cp) ∧ w'.cell? ⟨w.heap.size, 1, none⟩ = some (.slice (some ⟨gs, 0, none⟩) y.sn cs) ∧ w'.cell? ⟨gp, p, none⟩ = some (.slice (some ⟨b9, 0, none⟩) (y.pL p) cb9) ∧ w'.cell? ⟨gs, p * 4, none⟩ = some (.int .i64 (y.sS p).p) ∧ w'.cell? ⟨gs, p * 4 + 1, none⟩ = some (.slice ra9 (y.sS p).rs.length rc9) ∧ w'.cell? ⟨gs, p * 4 + 2, none⟩ = some (.slice oa9 (y.sS p).os.length oc9) ∧ w'.cell? ⟨gs, p * 4 + 3, none⟩ = some (.int .i64 (y.sS p).c) ∧ w'.cell? ⟨w.heap.size + 1, 0, none⟩ = some (.int .i64 k) ∧ w'.cell? ⟨w.heap.size + 1, 1, none⟩ = some (.int .i64 q) ∧ w'.cell? ⟨w.heap.size + 1, 2, none⟩ = some (.int .i64 v0)) (fun i => i == 19) (by kernel_rfl) ?_
 have hHeld : (fun w' => w'.cell? ⟨w.heap.size, 0, none⟩ = some (.slice (some ⟨gp, 0, none⟩) y.pn cp) ∧ w'.cell? ⟨w.heap.size, 1, none⟩ = some (.slice (some ⟨gs, 0, none⟩) y.sn cs) ∧ w'.cell? ⟨gp, p, none⟩ = some (.slice (some ⟨b9, 0, none⟩) (y.pL p) cb9) ∧ w'.cell? ⟨gs, p * 4, none⟩ = some (.int .i64 (y.sS p).p) ∧ w'.cell? ⟨gs, p * 4 + 1, none⟩ = some (.slice ra9 (y.sS p).rs.length rc9) ∧ w'.cell? ⟨gs, p * 4 + 2, none⟩ = some (.slice oa9 (y.sS p).os.length oc9) ∧ w'.cell? ⟨gs, p * 4 + 3, none⟩ = some (.int .i64 (y.sS p).c) ∧ w'.cell? ⟨w.heap.size + 1, 0, none⟩ = some (.int .i64 k) ∧ w'.cell? ⟨w.heap.size + 1, 1, none⟩ = some (.int .i64 q) ∧ w'.cell? ⟨w.heap.size + 1, 2, none⟩ = some (.int .i64 v0)) W2.drew := ⟨b0, b1, cellp, s0, s1, s2, s3, k0, k1, k2⟩
 refine wpGT_of [0, 1, 2, 3, 4, 5, 6, 7, 8, 9, 10, 11, 12, 13] ?_
 iterate 14 (refine wpGT_take rfl hHeld ?_; apply Exists.intro; refine ⟨fun wq hSw => ?_, ?_⟩; (· ((try dsimp only at hSw); go_simp; try with_reducible rfl)); (try simp only [Act.put, List.setIfInBounds_toArray, List.set_cons_zero, List.set_cons_succ]))
 refine wpGT_nil ?_
 refine wpG_one 14 rfl (by kernel_rfl) (fun K hK => ?_)
 refine stepR_call rfl 100 _ _ rfl #[.slice (some ⟨b9, 0, none⟩) (y.pL p) cb9, stV (y.sS p).p ra9 (y.sS p).rs.length rc9 oa9 (y.sS p).os.length oc9 (y.sS p).c, evV k q v0] (by simp [Act.eval]) (run_enter Tryz.func100 (by kernel_rfl) rfl) (doIn_any b9 0 (y.pL p) cb9 (y.pH p) (y.sS p).p (y.sS p).c ra9 oa9 rc9 oc9 (y.sS p).rs (y.sS p).os k q v0 W2.drew HLn.out.1 hb9 hI HLn.out.2.1 HLn.out.2.2 hsl.1 hsl.2 HP4.out) ?_
 rintro e w5 ⟨u5, rfl, o5, d5⟩
 refine ⟨_, rfl, ?_⟩
 have HT : Hid (y.evt p k q v0 = (y.setS p (doS (y.pH p) (y.pL p) (y.sS p).p (y.sS p).rs (y.sS p).os (y.sS p).c k q v0)).setH p (y.hL p + 1) (fun i => if i = y.hL p then ⟨k, q, v0⟩ else y.hH p i)) := rfl
 generalize doS (y.pH p) (y.pL p) (y.sS p).p (y.sS p).rs (y.sS p).os (y.sS p).c k q v0 = T at o5 HT
 generalize doB (y.pH p) (y.pL p) (y.sS p).p (y.sS p).rs (y.sS p).os (y.sS p).c k q v0 = tb
 obtain ⟨ra5, rc5, oa5, oc5, rfl, -, -⟩ := o5.read
 have q5 : Below W2.heap.size W2 w5 := (Below.refl W2.heap.size W2).drew.trans d5
 have hc5 := (bcell q5).1
 have hHeld5 : (fun w' => w'.cell? ⟨w.heap.size, 0, none⟩ = some (.slice (some ⟨gp, 0, none⟩) y.pn cp) ∧ w'.cell? ⟨w.heap.size, 1, none⟩ = some (.slice (some ⟨gs, 0, none⟩) y.sn cs) ∧ w'.cell? ⟨gp, p, none⟩ = some (.slice (some ⟨b9, 0, none⟩) (y.pL p) cb9) ∧ w'.cell? ⟨gs, p * 4, none⟩ = some (.int .i64 (y.sS p).p) ∧ w'.cell? ⟨gs, p * 4 + 1, none⟩ = some (.slice ra9 (y.sS p).rs.length rc9) ∧ w'.cell? ⟨gs, p * 4 + 2, none⟩ = some (.slice oa9 (y.sS p).os.length oc9) ∧ w'.cell? ⟨gs, p * 4 + 3, none⟩ = some (.int .i64 (y.sS p).c) ∧ w'.cell? ⟨w.heap.size + 1, 0, none⟩ = some (.int .i64 k) ∧ w'.cell? ⟨w.heap.size + 1, 1, none⟩ = some (.int .i64 q) ∧ w'.cell? ⟨w.heap.size + 1, 2, none⟩ = some (.int .i64 v0)) w5 := ⟨(hc5 _ _ m0).trans b0, (hc5 _ _ m0).trans b1, (hc5 _ _ lp).trans cellp, (hc5 _ _ ls).trans s0, (hc5 _ _ ls).trans s1, (hc5 _ _ ls).trans s2, (hc5 _ _ ls).trans s3, (hc5 _ _ mN).trans k0, (hc5 _ _ mN).trans k1, (hc5 _ _ mN).trans k2⟩
 have hf5 : ∀ j, w5.frozen? ⟨gs, j, none⟩ = false := fun j => ((bcell q5).2 _ j ls).trans (fs j)
 have H1 : Hid (Hp w B c k q v0 (y.setS p T) (.slice (some ⟨gp, 0, none⟩) y.pn cp) (.slice (some ⟨gs, 0, none⟩) y.sn cs) (.slice (some ⟨gw, 0, none⟩) y.wn cw) (.slice (some ⟨gh, 0, none⟩) y.hn ch) ((((w5.setCell ⟨gs, p * 4, none⟩ (.int .i64 T.p)).setCell ⟨gs, p * 4 + 1, none⟩ (.slice ra5 T.rs.length rc5)).setCell ⟨gs, p * 4 + 2, none⟩ (.slice oa5 T.os.length oc5)).setCell ⟨gs, p * 4 + 3, none⟩ (.int .i64 T.c))) := H0.out.putS hB hps q5 (o5.mono (by simp))
 refine hK.out _ _ (fun _ => hHeld5) ?_
 clear hHeld
 have hHeld := hHeld5
 clear hHeld5 hc5 d5
 clear hK K
 (try simp only [Act.put, List.setIfInBounds_toArray, List.set_cons_zero, List.set_cons_succ])
 refine wpGT_of [15, 16] ?_
 iterate 2 (refine wpGT_take rfl hHeld ?_; apply Exists.intro; refine ⟨fun wq hSw => ?_, ?_⟩; (· ((try dsimp only at hSw); go_simp; try with_reducible rfl)); (try simp only [Act.put, List.setIfInBounds_toArray, List.set_cons_zero, List.set_cons_succ]))
 refine wpGT_nil ?_
 refine wpG_takeW 17 rfl (by kernel_rfl) (by kernel_rfl) (by kernel_rfl) (fun _ _ _ _ h => h) (by rfl) ?_
 apply Exists.intro
 refine ⟨fun wq => ?_, ?_⟩
 ·go_simp
  try with_reducible rfl
 (try simp only [Act.put, List.setIfInBounds_toArray, List.set_cons_zero, List.set_cons_succ])
 refine wpG_take 18 rfl hHeld ?_
 apply Exists.intro
 refine ⟨fun wq hSw => ?_, ?_⟩
 ·(try dsimp only at hSw)
  go_simp
  try with_reducible rfl
 (try simp only [Act.put, List.setIfInBounds_toArray, List.set_cons_zero, List.set_cons_succ])
 refine wpG_one 19 rfl (by kernel_rfl) (fun K hK => ?_)
 obtain ⟨-, -, -, p0, p1, p2, p3, -⟩ := hHeld
 go_simp
 refine hK.out _ _ (fun h => ?_) ?_
 ·exact absurd h (by decide)
 clear hK K
 (try simp only [Act.put, List.setIfInBounds_toArray, List.set_cons_zero, List.set_cons_succ])
 refine wpG_done (by kernel_rfl) ?_ _
 clear o9 hb9 hI hsl b0 b1 b2 b3 k0 k1 k2 kf m0 mN lp cellp ls fs s0 s1 s2 s3 q5 hf5 p0 p1 p2 p3 o5
 go_upto_region 2 with fail
 generalize ((((w5.setCell ⟨gs, p * 4, none⟩ (.int .i64 T.p)).setCell ⟨gs, p * 4 + 1, none⟩ (.slice ra5 T.rs.length rc5)).setCell ⟨gs, p * 4 + 2, none⟩ (.slice oa5 T.os.length oc5)).setCell ⟨gs, p * 4 + 3, none⟩ (.int .i64 T.c)) = W3 at *
 clear H0
 obtain ⟨c9, up9, us9, uw9, uh9, o9, -, -, -⟩ := H1.out.ow
 obtain ⟨b0, b1, b2, b3⟩ := H1.out.bx
 obtain ⟨k0, k1, k2, kf⟩ := id H1.out.ev
 have m0 := H1.out.bx.ltM
 have mN := H1.out.ev.lt
 have OH9 : LE W3 (Cl B c9 4) (.slice (some ⟨gh, 0, none⟩) y.hn ch) y.hn uh9 y.hL y.hH := o9.h
 obtain ⟨g9, k9, ew, -, lh, cellh, fh⟩ := OH9.cell hph
 simp only [Value.slice.injEq, Option.some.injEq, Addr.mk.injEq, and_true, true_and] at ew
 obtain ⟨rfl, rfl⟩ := ew
 clear OH9
 have HEq : Hid (∀ wx, Below W3.heap.size W3 wx → Calls Tryz.prog 101 #[sysV (some ⟨gp, 0, none⟩) y.pn cp (some ⟨gs, 0, none⟩) y.sn cs (some ⟨gw, 0, none⟩) y.wn cw (some ⟨gh, 0, none⟩) y.hn ch, .int .i64 p] wx fun e w' => e = .returned (.agg #[.slice (adOf (uh9 p)) (y.hL p) (cpOf (uh9 p)), .int .i64 200]) ∧ Below wx.heap.size wx w') := fun wx hb => by
  have h := eventQueue_any _ p wx (o9.g.below hb) hph
  rw [o9.v] at h
  exact h
 have HWi : Hid (∀ wx, Below W3.heap.size W3 wx → Calls Tryz.prog 102 #[.agg #[.slice (adOf (uh9 p)) (y.hL p) (cpOf (uh9 p)), .int .i64 200], .agg #[.int .i64 k, .int .i64 q, .int .i64 v0]] wx fun e w' => ∃ v, e = .returned v ∧ w'.ownsRow wx.heap.size 77 3 v (y.hL p + 1) (fE (fun i => if i = y.hL p then ⟨k, q, v0⟩ else y.hH p i) (y.hL p + 1)) ∧ v ≠ .slice none 0 0 ∧ Below wx.heap.size wx w') := fun wx hb => withEvent_own _ (y.hL p) _ 200 (y.hH p) ⟨k, q, v0⟩ wx (by omega) (srcE ((o9.g.below hb).hi p hph))
 refine wp_region_G (fun w' => w'.cell? ⟨w.heap.size, 0, none⟩ = some (.slice (some ⟨gp, 0, none⟩) y.pn cp) ∧ w'.cell? ⟨w.heap.size, 1, none⟩ = some (.slice (some ⟨gs, 0, none⟩) y.sn cs) ∧ w'.cell? ⟨w.heap.size, 2, none⟩ = some (.slice (some ⟨gw, 0, none⟩) y.wn cw) ∧ w'.cell? ⟨w.heap.size, 3, none⟩ = some (.slice (some ⟨gh, 0, none⟩) y.hn ch) ∧ w'.cell? ⟨w.heap.size + 1, 0, none⟩ = some (.int .i64 k) ∧ w'.cell? ⟨w.heap.size + 1, 1, none⟩ = some (.int .i64 q) ∧ w'.cell? ⟨w.heap.size + 1, 2, none⟩ = some (.int .i64 v0) ∧ w'.cell? ⟨gh, p, none⟩ = some (uh9 p)) (fun i => i == 9) (by kernel_rfl) ?_
 have hHeld : (fun w' => w'.cell? ⟨w.heap.size, 0, none⟩ = some (.slice (some ⟨gp, 0, none⟩) y.pn cp) ∧ w'.cell? ⟨w.heap.size, 1, none⟩ = some (.slice (some ⟨gs, 0, none⟩) y.sn cs) ∧ w'.cell? ⟨w.heap.size, 2, none⟩ = some (.slice (some ⟨gw, 0, none⟩) y.wn cw) ∧ w'.cell? ⟨w.heap.size, 3, none⟩ = some (.slice (some ⟨gh, 0, none⟩) y.hn ch) ∧ w'.cell? ⟨w.heap.size + 1, 0, none⟩ = some (.int .i64 k) ∧ w'.cell? ⟨w.heap.size + 1, 1, none⟩ = some (.int .i64 q) ∧ w'.cell? ⟨w.heap.size + 1, 2, none⟩ = some (.int .i64 v0) ∧ w'.cell? ⟨gh, p, none⟩ = some (uh9 p)) W3.drew := ⟨b0, b1, b2, b3, k0, k1, k2, cellh⟩
 refine wpGT_of [0, 1, 2, 3, 4, 6] ?_
 iterate 6 (refine wpGT_take rfl hHeld ?_; apply Exists.intro; refine ⟨fun wq hSw => ?_, ?_⟩; (· ((try dsimp only at hSw); go_simp; try with_reducible rfl)); (try simp only [Act.put, List.setIfInBounds_toArray, List.set_cons_zero, List.set_cons_succ]))
 refine wpGT_nil ?_
 refine wpG_one 5 rfl (by kernel_rfl) (fun K hK => ?_)
 refine stepR_call rfl 101 _ _ rfl #[sysV (some ⟨gp, 0, none⟩) y.pn cp (some ⟨gs, 0, none⟩) y.sn cs (some ⟨gw, 0, none⟩) y.wn cw (some ⟨gh, 0, none⟩) y.hn ch, .int .i64 p] (by simp [Act.eval]) (run_enter Tryz.func101 (by kernel_rfl) rfl) (HEq.out W3.drew (Below.refl W3.heap.size W3).drew) ?_
 rintro e w5 ⟨rfl, d5⟩
 refine ⟨_, rfl, ?_⟩
 have q5 : Below W3.heap.size W3 w5 := (Below.refl W3.heap.size W3).drew.trans d5
 have hc5 := (bcell q5).1
 refine hK.out _ _ (fun _ => ⟨(hc5 _ _ m0).trans b0, (hc5 _ _ m0).trans b1, (hc5 _ _ m0).trans b2, (hc5 _ _ m0).trans b3, (hc5 _ _ mN).trans k0, (hc5 _ _ mN).trans k1, (hc5 _ _ mN).trans k2, (hc5 _ _ lh).trans cellh⟩) ?_
 clear hc5 d5
 clear hK K
 (try simp only [Act.put, List.setIfInBounds_toArray, List.set_cons_zero, List.set_cons_succ])
 refine wpG_one 7 rfl (by kernel_rfl) (fun K hK => ?_)
 refine stepR_call rfl 102 _ _ rfl #[.agg #[.slice (adOf (uh9 p)) (y.hL p) (cpOf (uh9 p)), .int .i64 200], .agg #[.int .i64 k, .int .i64 q, .int .i64 v0]] (by simp [Act.eval]) (run_enter Tryz.func102 (by kernel_rfl) rfl) (HWi.out w5 q5) ?_
 rintro e w6 ⟨v6, rfl, o6, n6, d6⟩
 refine ⟨_, rfl, ?_⟩
 have q6 : Below W3.heap.size W3 w6 := q5.trans (d6.mono q5.size)
 have hc6 := (bcell q6).1
 have hHeld6 : (fun w' => w'.cell? ⟨w.heap.size, 0, none⟩ = some (.slice (some ⟨gp, 0, none⟩) y.pn cp) ∧ w'.cell? ⟨w.heap.size, 1, none⟩ = some (.slice (some ⟨gs, 0, none⟩) y.sn cs) ∧ w'.cell? ⟨w.heap.size, 2, none⟩ = some (.slice (some ⟨gw, 0, none⟩) y.wn cw) ∧ w'.cell? ⟨w.heap.size, 3, none⟩ = some (.slice (some ⟨gh, 0, none⟩) y.hn ch) ∧ w'.cell? ⟨w.heap.size + 1, 0, none⟩ = some (.int .i64 k) ∧ w'.cell? ⟨w.heap.size + 1, 1, none⟩ = some (.int .i64 q) ∧ w'.cell? ⟨w.heap.size + 1, 2, none⟩ = some (.int .i64 v0) ∧ w'.cell? ⟨gh, p, none⟩ = some (uh9 p)) w6 := ⟨(hc6 _ _ m0).trans b0, (hc6 _ _ m0).trans b1, (hc6 _ _ m0).trans b2, (hc6 _ _ m0).trans b3, (hc6 _ _ mN).trans k0, (hc6 _ _ mN).trans k1, (hc6 _ _ mN).trans k2, (hc6 _ _ lh).trans cellh⟩
 have hf6 : ∀ j, w6.frozen? ⟨gh, j, none⟩ = false := fun j => ((bcell q6).2 _ j lh).trans (fh j)
 obtain ⟨a6, c6, rfl⟩ := ownsRow_slice o6
 have H2 : Hid (Hp w B c k q v0 (y.evt p k q v0) (.slice (some ⟨gp, 0, none⟩) y.pn cp) (.slice (some ⟨gs, 0, none⟩) y.sn cs) (.slice (some ⟨gw, 0, none⟩) y.wn cw) (.slice (some ⟨gh, 0, none⟩) y.hn ch) (w6.setCell ⟨gh, p, none⟩ (.slice a6 (y.hL p + 1) c6))) := by
  have h := H1.out.putH hB hph q6 (o6.mono q5.size) n6
  show Hp w B c k q v0 (y.evt p k q v0) (.slice (some ⟨gp, 0, none⟩) y.pn cp) (.slice (some ⟨gs, 0, none⟩) y.sn cs) (.slice (some ⟨gw, 0, none⟩) y.wn cw) (.slice (some ⟨gh, 0, none⟩) y.hn ch) _
  rw [HT.out]
  exact h
 refine hK.out _ _ (fun _ => hHeld6) ?_
 clear hHeld
 have hHeld := hHeld6
 clear hHeld6 hc6 d6 o6 n6
 clear hK K
 (try simp only [Act.put, List.setIfInBounds_toArray, List.set_cons_zero, List.set_cons_succ])
 refine wpG_take 8 rfl hHeld ?_
 apply Exists.intro
 refine ⟨fun wq hSw => ?_, ?_⟩
 ·(try dsimp only at hSw)
  go_simp
  try with_reducible rfl
 (try simp only [Act.put, List.setIfInBounds_toArray, List.set_cons_zero, List.set_cons_succ])
 refine wpG_one 9 rfl (by kernel_rfl) (fun K hK => ?_)
 have hcN := hHeld.2.2.2.2.2.2.2
 have hfN := hf6 p
 go_simp
 refine hK.out _ _ (fun h => ?_) ?_
 ·exact absurd h (by decide)
 clear hK K
 (try simp only [Act.put, List.setIfInBounds_toArray, List.set_cons_zero, List.set_cons_succ])
 refine wpG_done (by kernel_rfl) ?_ _
 clear o9 b0 b1 b2 b3 k0 k1 k2 kf m0 mN lh cellh fh q5 q6 hf6 hcN hfN HEq HWi hHeld HT
 go_upto_region 3 with fail
 generalize w6.setCell ⟨gh, p, none⟩ (.slice a6 (y.hL p + 1) c6) = W4 at *
 clear H1
 rcases Bool.eq_false_or_eq_true (k == 2) with t2 | t2
 ·have hk : k = 2 := by simpa using t2
  obtain ⟨g1, g2⟩ := HK2.out hk
  obtain ⟨r, rfl⟩ : ∃ r : Nat, q = r := ⟨q.toNat, by omega⟩
  have hr : r < y.pn := by omega
  have hJ : p * y.pn + r < y.wn := by rw [HN.out.2.2]; exact way_lt hp hr
  have h12 : y.wL (p * y.pn + r) ≤ 12 := HWY.out p r hp hr
  have hr4 : r < 4 := by omega
  have hp4 : p < 4 := by omega
  have HY : Hid ((y.evt p k (r : Int) v0).way p k (r : Int) v0 = (y.evt p k (r : Int) v0).setW (p * y.pn + r) (y.wL (p * y.pn + r) + 1) (fun i => if i = y.wL (p * y.pn + r) then ⟨false, v0⟩ else y.wH (p * y.pn + r) i)) := by
   show (y.evt p k (r : Int) v0).way p k (r : Int) v0 = _
   rw [show (y.evt p k (r : Int) v0).way p k (r : Int) v0 = (y.evt p k (r : Int) v0).way p 2 (r : Int) v0 by rw [hk], Sy.way_send]
   rfl
  have HNu0 : ∀ x : SysIn, x.pn = y.pn → ∀ wx, Calls Tryz.prog 105 #[x.v, .int .i64 p, .int .i64 r] wx fun e w' => e = .returned (.int .i64 (p * y.pn + r : Nat)) ∧ Below wx.heap.size wx w' := fun x e wx => by
   have h := wayNumber_any x p r wx hp4 hr4 (by omega)
   rw [e] at h
   exact h
  have HQu0 : ∀ x : SysIn, x.pn = y.pn → ∀ wx, SysG wx x → p * y.pn + r < x.wn → Calls Tryz.prog 103 #[x.v, .int .i64 p, .int .i64 r] wx fun e w' => e = .returned (.agg #[.slice (x.wA (p * y.pn + r)) (x.wL (p * y.pn + r)) (x.wC (p * y.pn + r)), .int .i64 12]) ∧ Below wx.heap.size wx w' := fun x e wx hg hw => by
   have h := wayQueue_any x p r wx hg hp4 hr4 (by omega) (by rw [e]; exact hw)
   rw [e] at h
   exact h
  generalize p * y.pn + r = J at *
  have hJ' : (J : Int) < (y.wn : Int) := by omega
  obtain ⟨c9, up9, us9, uw9, uh9, o9, -, -, -⟩ := H2.out.ow
  obtain ⟨b0, b1, b2, b3⟩ := H2.out.bx
  obtain ⟨k0, k1, k2, kf⟩ := id H2.out.ev
  have m0 := H2.out.bx.ltM
  have mN := H2.out.ev.lt
  have OT9 : LT W4 (Cl B c9 3) (.slice (some ⟨gw, 0, none⟩) y.wn cw) y.wn uw9 y.wL y.wH := o9.t
  obtain ⟨g9, k9, ew, -, lw, cellw, fw⟩ := OT9.cell hJ
  simp only [Value.slice.injEq, Option.some.injEq, Addr.mk.injEq, and_true, true_and] at ew
  obtain ⟨rfl, rfl⟩ := ew
  have HNu : Hid (∀ wx, Calls Tryz.prog 105 #[sysV (some ⟨gp, 0, none⟩) y.pn cp (some ⟨gs, 0, none⟩) y.sn cs (some ⟨gw, 0, none⟩) y.wn cw (some ⟨gh, 0, none⟩) y.hn ch, .int .i64 p, .int .i64 r] wx fun e w' => e = .returned (.int .i64 (J : Nat)) ∧ Below wx.heap.size wx w') := fun wx => by
   have h := HNu0 ((y.evt p k (r : Int) v0).sysIn (.slice (some ⟨gp, 0, none⟩) y.pn cp) (.slice (some ⟨gs, 0, none⟩) y.sn cs) (.slice (some ⟨gw, 0, none⟩) y.wn cw) (.slice (some ⟨gh, 0, none⟩) y.hn ch) up9 us9 uw9 uh9) rfl wx
   rw [o9.v] at h
   exact h
  have HQu : Hid (∀ wx, Below W4.heap.size W4 wx → Calls Tryz.prog 103 #[sysV (some ⟨gp, 0, none⟩) y.pn cp (some ⟨gs, 0, none⟩) y.sn cs (some ⟨gw, 0, none⟩) y.wn cw (some ⟨gh, 0, none⟩) y.hn ch, .int .i64 p, .int .i64 r] wx fun e w' => e = .returned (.agg #[.slice (adOf (uw9 J)) (y.wL J) (cpOf (uw9 J)), .int .i64 12]) ∧ Below wx.heap.size wx w') := fun wx hb => by
   have h := HQu0 ((y.evt p k (r : Int) v0).sysIn (.slice (some ⟨gp, 0, none⟩) y.pn cp) (.slice (some ⟨gs, 0, none⟩) y.sn cs) (.slice (some ⟨gw, 0, none⟩) y.wn cw) (.slice (some ⟨gh, 0, none⟩) y.hn ch) up9 us9 uw9 uh9) rfl wx (o9.g.below hb) hJ
   rw [o9.v] at h
   exact h
  have HWi : Hid (∀ wx, Below W4.heap.size W4 wx → Calls Tryz.prog 104 #[.agg #[.slice (adOf (uw9 J)) (y.wL J) (cpOf (uw9 J)), .int .i64 12], .agg #[.bool false, .int .i64 v0]] wx fun e w' => ∃ a c, e = .returned (.slice a (y.wL J + 1) c) ∧ w'.ownsRow wx.heap.size 122 2 (.slice a (y.wL J + 1) c) (y.wL J + 1) (fT (fun i => if i = y.wL J then ⟨false, v0⟩ else y.wH J i) (y.wL J + 1)) ∧ Value.slice a (y.wL J + 1) c ≠ .slice none 0 0 ∧ Below wx.heap.size wx w') := fun wx hb => (withItem_own _ (y.wL J) _ 12 (y.wH J) ⟨false, v0⟩ wx (by omega) (srcT ((o9.g.below hb).wi J hJ))).mono fun e w' ⟨v, e1, e2, e3, e4⟩ => by
   obtain ⟨a, c, rfl⟩ := ownsRow_slice e2
   exact ⟨a, c, e1, e2, e3, e4⟩
  clear HNu0 HQu0 o9 OT9 hk
  go_upto_region 5 with fail
  refine wp_region_G (fun w' => w'.cell? ⟨w.heap.size, 0, none⟩ = some (.slice (some ⟨gp, 0, none⟩) y.pn cp) ∧ w'.cell? ⟨w.heap.size, 1, none⟩ = some (.slice (some ⟨gs, 0, none⟩) y.sn cs) ∧ w'.cell? ⟨w.heap.size, 2, none⟩ = some (.slice (some ⟨gw, 0, none⟩) y.wn cw) ∧ w'.cell? ⟨w.heap.size, 3, none⟩ = some (.slice (some ⟨gh, 0, none⟩) y.hn ch) ∧ w'.cell? ⟨w.heap.size + 1, 1, none⟩ = some (.int .i64 (r : Int)) ∧ w'.cell? ⟨w.heap.size + 1, 2, none⟩ = some (.int .i64 v0) ∧ w'.cell? ⟨gw, J, none⟩ = some (uw9 J)) (fun i => i == 17) (by kernel_rfl) ?_
  have hHeld : (fun w' => w'.cell? ⟨w.heap.size, 0, none⟩ = some (.slice (some ⟨gp, 0, none⟩) y.pn cp) ∧ w'.cell? ⟨w.heap.size, 1, none⟩ = some (.slice (some ⟨gs, 0, none⟩) y.sn cs) ∧ w'.cell? ⟨w.heap.size, 2, none⟩ = some (.slice (some ⟨gw, 0, none⟩) y.wn cw) ∧ w'.cell? ⟨w.heap.size, 3, none⟩ = some (.slice (some ⟨gh, 0, none⟩) y.hn ch) ∧ w'.cell? ⟨w.heap.size + 1, 1, none⟩ = some (.int .i64 (r : Int)) ∧ w'.cell? ⟨w.heap.size + 1, 2, none⟩ = some (.int .i64 v0) ∧ w'.cell? ⟨gw, J, none⟩ = some (uw9 J)) W4.drew := ⟨b0, b1, b2, b3, k1, k2, cellw⟩
  have q0 : Below W4.heap.size W4 W4.drew := (Below.refl W4.heap.size W4).drew
  refine wpGT_of [0, 1, 2, 3, 4, 5, 7, 8, 9, 10, 12, 13, 14] ?_
  iterate 13 (refine wpGT_take rfl hHeld ?_; apply Exists.intro; refine ⟨fun wq hSw => ?_, ?_⟩; (· ((try dsimp only at hSw); go_simp; try with_reducible rfl)); (try simp only [Act.put, List.setIfInBounds_toArray, List.set_cons_zero, List.set_cons_succ]))
  refine wpGT_nil ?_
  refine wpG_one 6 rfl (by kernel_rfl) (fun K hK => ?_)
  refine stepR_call rfl 105 _ _ rfl #[sysV (some ⟨gp, 0, none⟩) y.pn cp (some ⟨gs, 0, none⟩) y.sn cs (some ⟨gw, 0, none⟩) y.wn cw (some ⟨gh, 0, none⟩) y.hn ch, .int .i64 (p : Nat), .int .i64 (r : Nat)] (by simp [Act.eval]) (run_enter Tryz.func105 (by kernel_rfl) rfl) (HNu.out W4.drew) ?_
  rintro e wa ⟨rfl, d5⟩
  refine ⟨_, rfl, ?_⟩
  have qwa : Below W4.heap.size W4 wa := q0.trans (d5.mono q0.size)
  have hcwa := (bcell qwa).1
  have hHeldwa : (fun w' => w'.cell? ⟨w.heap.size, 0, none⟩ = some (.slice (some ⟨gp, 0, none⟩) y.pn cp) ∧ w'.cell? ⟨w.heap.size, 1, none⟩ = some (.slice (some ⟨gs, 0, none⟩) y.sn cs) ∧ w'.cell? ⟨w.heap.size, 2, none⟩ = some (.slice (some ⟨gw, 0, none⟩) y.wn cw) ∧ w'.cell? ⟨w.heap.size, 3, none⟩ = some (.slice (some ⟨gh, 0, none⟩) y.hn ch) ∧ w'.cell? ⟨w.heap.size + 1, 1, none⟩ = some (.int .i64 (r : Int)) ∧ w'.cell? ⟨w.heap.size + 1, 2, none⟩ = some (.int .i64 v0) ∧ w'.cell? ⟨gw, J, none⟩ = some (uw9 J)) wa := ⟨(hcwa _ _ m0).trans b0, (hcwa _ _ m0).trans b1, (hcwa _ _ m0).trans b2, (hcwa _ _ m0).trans b3, (hcwa _ _ mN).trans k1, (hcwa _ _ mN).trans k2, (hcwa _ _ lw).trans cellw⟩
  refine hK.out _ _ (fun _ => hHeldwa) ?_
  clear hK K d5
  (try simp only [Act.put, List.setIfInBounds_toArray, List.set_cons_zero, List.set_cons_succ])
  refine wpG_one 11 rfl (by kernel_rfl) (fun K hK => ?_)
  refine stepR_call rfl 103 _ _ rfl #[sysV (some ⟨gp, 0, none⟩) y.pn cp (some ⟨gs, 0, none⟩) y.sn cs (some ⟨gw, 0, none⟩) y.wn cw (some ⟨gh, 0, none⟩) y.hn ch, .int .i64 (p : Nat), .int .i64 (r : Nat)] (by simp [Act.eval]) (run_enter Tryz.func103 (by kernel_rfl) rfl) (HQu.out wa qwa) ?_
  rintro e wb ⟨rfl, d5⟩
  refine ⟨_, rfl, ?_⟩
  have qwb : Below W4.heap.size W4 wb := qwa.trans (d5.mono qwa.size)
  have hcwb := (bcell qwb).1
  have hHeldwb : (fun w' => w'.cell? ⟨w.heap.size, 0, none⟩ = some (.slice (some ⟨gp, 0, none⟩) y.pn cp) ∧ w'.cell? ⟨w.heap.size, 1, none⟩ = some (.slice (some ⟨gs, 0, none⟩) y.sn cs) ∧ w'.cell? ⟨w.heap.size, 2, none⟩ = some (.slice (some ⟨gw, 0, none⟩) y.wn cw) ∧ w'.cell? ⟨w.heap.size, 3, none⟩ = some (.slice (some ⟨gh, 0, none⟩) y.hn ch) ∧ w'.cell? ⟨w.heap.size + 1, 1, none⟩ = some (.int .i64 (r : Int)) ∧ w'.cell? ⟨w.heap.size + 1, 2, none⟩ = some (.int .i64 v0) ∧ w'.cell? ⟨gw, J, none⟩ = some (uw9 J)) wb := ⟨(hcwb _ _ m0).trans b0, (hcwb _ _ m0).trans b1, (hcwb _ _ m0).trans b2, (hcwb _ _ m0).trans b3, (hcwb _ _ mN).trans k1, (hcwb _ _ mN).trans k2, (hcwb _ _ lw).trans cellw⟩
  refine hK.out _ _ (fun _ => hHeldwb) ?_
  clear hK K d5
  (try simp only [Act.put, List.setIfInBounds_toArray, List.set_cons_zero, List.set_cons_succ])
  refine wpG_one 15 rfl (by kernel_rfl) (fun K hK => ?_)
  refine stepR_call rfl 104 _ _ rfl #[.agg #[.slice (adOf (uw9 J)) (y.wL J) (cpOf (uw9 J)), .int .i64 12], .agg #[.bool false, .int .i64 v0]] (by simp [Act.eval]) (run_enter Tryz.func104 (by kernel_rfl) rfl) (HWi.out wb qwb) ?_
  rintro e wd ⟨a6, c6, rfl, o6, n6, d6⟩
  refine ⟨_, rfl, ?_⟩
  have qwd : Below W4.heap.size W4 wd := qwb.trans (d6.mono qwb.size)
  have hcwd := (bcell qwd).1
  have hHeldwd : (fun w' => w'.cell? ⟨w.heap.size, 0, none⟩ = some (.slice (some ⟨gp, 0, none⟩) y.pn cp) ∧ w'.cell? ⟨w.heap.size, 1, none⟩ = some (.slice (some ⟨gs, 0, none⟩) y.sn cs) ∧ w'.cell? ⟨w.heap.size, 2, none⟩ = some (.slice (some ⟨gw, 0, none⟩) y.wn cw) ∧ w'.cell? ⟨w.heap.size, 3, none⟩ = some (.slice (some ⟨gh, 0, none⟩) y.hn ch) ∧ w'.cell? ⟨w.heap.size + 1, 1, none⟩ = some (.int .i64 (r : Int)) ∧ w'.cell? ⟨w.heap.size + 1, 2, none⟩ = some (.int .i64 v0) ∧ w'.cell? ⟨gw, J, none⟩ = some (uw9 J)) wd := ⟨(hcwd _ _ m0).trans b0, (hcwd _ _ m0).trans b1, (hcwd _ _ m0).trans b2, (hcwd _ _ m0).trans b3, (hcwd _ _ mN).trans k1, (hcwd _ _ mN).trans k2, (hcwd _ _ lw).trans cellw⟩
  replace o6 := o6.mono qwb.size
  have hfw : ∀ j, wd.frozen? ⟨gw, j, none⟩ = false := fun j => ((bcell qwd).2 _ j lw).trans (fw j)
  have H3 : Hid (Hp w B c k (r : Int) v0 ((y.evt p k (r : Int) v0).setW J (y.wL J + 1) (fun i => if i = y.wL J then ⟨false, v0⟩ else y.wH J i)) (.slice (some ⟨gp, 0, none⟩) y.pn cp) (.slice (some ⟨gs, 0, none⟩) y.sn cs) (.slice (some ⟨gw, 0, none⟩) y.wn cw) (.slice (some ⟨gh, 0, none⟩) y.hn ch) (wd.setCell ⟨gw, J, none⟩ (.slice a6 (y.wL J + 1) c6))) := H2.out.putW hB hJ qwd o6 n6
  refine hK.out _ _ (fun _ => hHeldwd) ?_
  clear hHeld
  have hHeld := hHeldwd
  clear hK K
  (try simp only [Act.put, List.setIfInBounds_toArray, List.set_cons_zero, List.set_cons_succ])
  refine wpG_take 16 rfl hHeld ?_
  apply Exists.intro
  refine ⟨fun wq hSw => ?_, ?_⟩
  ·(try dsimp only at hSw)
   go_simp
   try with_reducible rfl
  (try simp only [Act.put, List.setIfInBounds_toArray, List.set_cons_zero, List.set_cons_succ])
  refine wpG_one 17 rfl (by kernel_rfl) (fun K hK => ?_)
  have hcN := hHeld.2.2.2.2.2.2
  have hfN := hfw J
  go_simp
  refine hK.out _ _ (fun h => ?_) ?_
  ·exact absurd h (by decide)
  clear hK K
  (try simp only [Act.put, List.setIfInBounds_toArray, List.set_cons_zero, List.set_cons_succ])
  refine wpG_done (by kernel_rfl) ?_ _
  clear hcN hfN hHeld hfw
  go_wp2_with fail
  go_end0
  exact ⟨rfl, H3.out.be, H3.out.kp, by
   rw [HY.out]
   exact H3.out.own⟩
 rcases Bool.eq_false_or_eq_true (k == 3) with t3 | t3
 ·have hk : k = 3 := by simpa using t3
  obtain ⟨g1, g2, g3⟩ := HK3.out hk
  obtain ⟨r, rfl⟩ : ∃ r : Nat, q = r := ⟨q.toNat, by omega⟩
  rw [Int.toNat_natCast] at g3
  have hr : r < y.pn := by omega
  have hJ : r * y.pn + p < y.wn := by rw [HN.out.2.2]; exact way_lt hr hp
  have h12 : y.wL (r * y.pn + p) ≤ 12 := HWY.out r p hr hp
  have hr4 : r < 4 := by omega
  have hp4 : p < 4 := by omega
  have HY : Hid ((y.evt p k (r : Int) v0).way p k (r : Int) v0 = (y.evt p k (r : Int) v0).setW (r * y.pn + p) (y.wL (r * y.pn + p) - 1) (fun i => y.wH (r * y.pn + p) (i + 1))) := by
   show (y.evt p k (r : Int) v0).way p k (r : Int) v0 = _
   rw [show (y.evt p k (r : Int) v0).way p k (r : Int) v0 = (y.evt p k (r : Int) v0).way p 3 (r : Int) v0 by rw [hk], Sy.way_take]
   rfl
  have HNu0 : ∀ x : SysIn, x.pn = y.pn → ∀ wx, Calls Tryz.prog 105 #[x.v, .int .i64 r, .int .i64 p] wx fun e w' => e = .returned (.int .i64 (r * y.pn + p : Nat)) ∧ Below wx.heap.size wx w' := fun x e wx => by
   have h := wayNumber_any x r p wx hr4 hp4 (by omega)
   rw [e] at h
   exact h
  have HQu0 : ∀ x : SysIn, x.pn = y.pn → ∀ wx, SysG wx x → r * y.pn + p < x.wn → Calls Tryz.prog 103 #[x.v, .int .i64 r, .int .i64 p] wx fun e w' => e = .returned (.agg #[.slice (x.wA (r * y.pn + p)) (x.wL (r * y.pn + p)) (x.wC (r * y.pn + p)), .int .i64 12]) ∧ Below wx.heap.size wx w' := fun x e wx hg hw => by
   have h := wayQueue_any x r p wx hg hr4 hp4 (by omega) (by rw [e]; exact hw)
   rw [e] at h
   exact h
  generalize r * y.pn + p = J at *
  have hJ' : (J : Int) < (y.wn : Int) := by omega
  obtain ⟨c9, up9, us9, uw9, uh9, o9, -, -, -⟩ := H2.out.ow
  obtain ⟨b0, b1, b2, b3⟩ := H2.out.bx
  obtain ⟨k0, k1, k2, kf⟩ := id H2.out.ev
  have m0 := H2.out.bx.ltM
  have mN := H2.out.ev.lt
  have OT9 : LT W4 (Cl B c9 3) (.slice (some ⟨gw, 0, none⟩) y.wn cw) y.wn uw9 y.wL y.wH := o9.t
  obtain ⟨g9, k9, ew, -, lw, cellw, fw⟩ := OT9.cell hJ
  simp only [Value.slice.injEq, Option.some.injEq, Addr.mk.injEq, and_true, true_and] at ew
  obtain ⟨rfl, rfl⟩ := ew
  obtain ⟨bw, cbw, euw, hbw, hIt, hcapw⟩ := atT (OT9.own J hJ) (OT9.nn J hJ)
  have hcm : cbw ≤ maxLen := by
   have h := OT9.own J hJ
   rw [euw] at h
   exact ownsRow_cap h
  have HNu : Hid (∀ wx, Calls Tryz.prog 105 #[sysV (some ⟨gp, 0, none⟩) y.pn cp (some ⟨gs, 0, none⟩) y.sn cs (some ⟨gw, 0, none⟩) y.wn cw (some ⟨gh, 0, none⟩) y.hn ch, .int .i64 r, .int .i64 p] wx fun e w' => e = .returned (.int .i64 (J : Nat)) ∧ Below wx.heap.size wx w') := fun wx => by
   have h := HNu0 ((y.evt p k (r : Int) v0).sysIn (.slice (some ⟨gp, 0, none⟩) y.pn cp) (.slice (some ⟨gs, 0, none⟩) y.sn cs) (.slice (some ⟨gw, 0, none⟩) y.wn cw) (.slice (some ⟨gh, 0, none⟩) y.hn ch) up9 us9 uw9 uh9) rfl wx
   rw [o9.v] at h
   exact h
  have HQu : Hid (∀ wx, Below W4.heap.size W4 wx → Calls Tryz.prog 103 #[sysV (some ⟨gp, 0, none⟩) y.pn cp (some ⟨gs, 0, none⟩) y.sn cs (some ⟨gw, 0, none⟩) y.wn cw (some ⟨gh, 0, none⟩) y.hn ch, .int .i64 r, .int .i64 p] wx fun e w' => e = .returned (.agg #[.slice (some ⟨bw, 0, none⟩) (y.wL J) cbw, .int .i64 12]) ∧ Below wx.heap.size wx w') := fun wx hb => by
   have h := HQu0 ((y.evt p k (r : Int) v0).sysIn (.slice (some ⟨gp, 0, none⟩) y.pn cp) (.slice (some ⟨gs, 0, none⟩) y.sn cs) (.slice (some ⟨gw, 0, none⟩) y.wn cw) (.slice (some ⟨gh, 0, none⟩) y.hn ch) up9 us9 uw9 uh9) rfl wx (o9.g.below hb) hJ
   rw [o9.v] at h
   refine h.mono fun e w' hh => ⟨hh.1.trans ?_, hh.2⟩
   show Ending.returned (.agg #[.slice (adOf (uw9 J)) (y.wL J) (cpOf (uw9 J)), .int .i64 12]) = _
   rw [euw]
   rfl
  have HWi : Hid (∀ wx, Below W4.heap.size W4 wx → Calls Tryz.prog 106 #[.agg #[.slice (some ⟨bw, 0, none⟩) (y.wL J) cbw, .int .i64 12]] wx fun e w' => ∃ a c, e = .returned (.slice a (y.wL J - 1) c) ∧ w'.ownsRow wx.heap.size 122 2 (.slice a (y.wL J - 1) c) (y.wL J - 1) (fT (fun i => y.wH J (i + 1)) (y.wL J - 1)) ∧ Value.slice a (y.wL J - 1) c ≠ .slice none 0 0 ∧ Below wx.heap.size wx w') := fun wx hb => restItem_own bw (y.wL J) cbw 12 (y.wH J) wx (by omega) (by omega) hcapw hcm (Nat.lt_of_lt_of_le hbw hb.size) (hIt.below hb hbw)
  clear HNu0 HQu0 o9 OT9 hk hIt
  go_upto_region 7 with fail
  refine wp_region_G (fun w' => w'.cell? ⟨w.heap.size, 0, none⟩ = some (.slice (some ⟨gp, 0, none⟩) y.pn cp) ∧ w'.cell? ⟨w.heap.size, 1, none⟩ = some (.slice (some ⟨gs, 0, none⟩) y.sn cs) ∧ w'.cell? ⟨w.heap.size, 2, none⟩ = some (.slice (some ⟨gw, 0, none⟩) y.wn cw) ∧ w'.cell? ⟨w.heap.size, 3, none⟩ = some (.slice (some ⟨gh, 0, none⟩) y.hn ch) ∧ w'.cell? ⟨w.heap.size + 1, 1, none⟩ = some (.int .i64 (r : Int)) ∧ w'.cell? ⟨w.heap.size + 1, 2, none⟩ = some (.int .i64 v0) ∧ w'.cell? ⟨gw, J, none⟩ = some (uw9 J)) (fun i => i == 14) (by kernel_rfl) ?_
  have hHeld : (fun w' => w'.cell? ⟨w.heap.size, 0, none⟩ = some (.slice (some ⟨gp, 0, none⟩) y.pn cp) ∧ w'.cell? ⟨w.heap.size, 1, none⟩ = some (.slice (some ⟨gs, 0, none⟩) y.sn cs) ∧ w'.cell? ⟨w.heap.size, 2, none⟩ = some (.slice (some ⟨gw, 0, none⟩) y.wn cw) ∧ w'.cell? ⟨w.heap.size, 3, none⟩ = some (.slice (some ⟨gh, 0, none⟩) y.hn ch) ∧ w'.cell? ⟨w.heap.size + 1, 1, none⟩ = some (.int .i64 (r : Int)) ∧ w'.cell? ⟨w.heap.size + 1, 2, none⟩ = some (.int .i64 v0) ∧ w'.cell? ⟨gw, J, none⟩ = some (uw9 J)) W4.drew := ⟨b0, b1, b2, b3, k1, k2, cellw⟩
  have q0 : Below W4.heap.size W4 W4.drew := (Below.refl W4.heap.size W4).drew
  refine wpGT_of [0, 1, 2, 3, 4, 5, 7, 8, 9, 10] ?_
  iterate 10 (refine wpGT_take rfl hHeld ?_; apply Exists.intro; refine ⟨fun wq hSw => ?_, ?_⟩; (· ((try dsimp only at hSw); go_simp; try with_reducible rfl)); (try simp only [Act.put, List.setIfInBounds_toArray, List.set_cons_zero, List.set_cons_succ]))
  refine wpGT_nil ?_
  refine wpG_one 6 rfl (by kernel_rfl) (fun K hK => ?_)
  refine stepR_call rfl 105 _ _ rfl #[sysV (some ⟨gp, 0, none⟩) y.pn cp (some ⟨gs, 0, none⟩) y.sn cs (some ⟨gw, 0, none⟩) y.wn cw (some ⟨gh, 0, none⟩) y.hn ch, .int .i64 (r : Nat), .int .i64 (p : Nat)] (by simp [Act.eval]) (run_enter Tryz.func105 (by kernel_rfl) rfl) (HNu.out W4.drew) ?_
  rintro e wa ⟨rfl, d5⟩
  refine ⟨_, rfl, ?_⟩
  have qwa : Below W4.heap.size W4 wa := q0.trans (d5.mono q0.size)
  have hcwa := (bcell qwa).1
  have hHeldwa : (fun w' => w'.cell? ⟨w.heap.size, 0, none⟩ = some (.slice (some ⟨gp, 0, none⟩) y.pn cp) ∧ w'.cell? ⟨w.heap.size, 1, none⟩ = some (.slice (some ⟨gs, 0, none⟩) y.sn cs) ∧ w'.cell? ⟨w.heap.size, 2, none⟩ = some (.slice (some ⟨gw, 0, none⟩) y.wn cw) ∧ w'.cell? ⟨w.heap.size, 3, none⟩ = some (.slice (some ⟨gh, 0, none⟩) y.hn ch) ∧ w'.cell? ⟨w.heap.size + 1, 1, none⟩ = some (.int .i64 (r : Int)) ∧ w'.cell? ⟨w.heap.size + 1, 2, none⟩ = some (.int .i64 v0) ∧ w'.cell? ⟨gw, J, none⟩ = some (uw9 J)) wa := ⟨(hcwa _ _ m0).trans b0, (hcwa _ _ m0).trans b1, (hcwa _ _ m0).trans b2, (hcwa _ _ m0).trans b3, (hcwa _ _ mN).trans k1, (hcwa _ _ mN).trans k2, (hcwa _ _ lw).trans cellw⟩
  refine hK.out _ _ (fun _ => hHeldwa) ?_
  clear hK K d5
  (try simp only [Act.put, List.setIfInBounds_toArray, List.set_cons_zero, List.set_cons_succ])
  refine wpG_one 11 rfl (by kernel_rfl) (fun K hK => ?_)
  refine stepR_call rfl 103 _ _ rfl #[sysV (some ⟨gp, 0, none⟩) y.pn cp (some ⟨gs, 0, none⟩) y.sn cs (some ⟨gw, 0, none⟩) y.wn cw (some ⟨gh, 0, none⟩) y.hn ch, .int .i64 (r : Nat), .int .i64 (p : Nat)] (by simp [Act.eval]) (run_enter Tryz.func103 (by kernel_rfl) rfl) (HQu.out wa qwa) ?_
  rintro e wb ⟨rfl, d5⟩
  refine ⟨_, rfl, ?_⟩
  have qwb : Below W4.heap.size W4 wb := qwa.trans (d5.mono qwa.size)
  have hcwb := (bcell qwb).1
  have hHeldwb : (fun w' => w'.cell? ⟨w.heap.size, 0, none⟩ = some (.slice (some ⟨gp, 0, none⟩) y.pn cp) ∧ w'.cell? ⟨w.heap.size, 1, none⟩ = some (.slice (some ⟨gs, 0, none⟩) y.sn cs) ∧ w'.cell? ⟨w.heap.size, 2, none⟩ = some (.slice (some ⟨gw, 0, none⟩) y.wn cw) ∧ w'.cell? ⟨w.heap.size, 3, none⟩ = some (.slice (some ⟨gh, 0, none⟩) y.hn ch) ∧ w'.cell? ⟨w.heap.size + 1, 1, none⟩ = some (.int .i64 (r : Int)) ∧ w'.cell? ⟨w.heap.size + 1, 2, none⟩ = some (.int .i64 v0) ∧ w'.cell? ⟨gw, J, none⟩ = some (uw9 J)) wb := ⟨(hcwb _ _ m0).trans b0, (hcwb _ _ m0).trans b1, (hcwb _ _ m0).trans b2, (hcwb _ _ m0).trans b3, (hcwb _ _ mN).trans k1, (hcwb _ _ mN).trans k2, (hcwb _ _ lw).trans cellw⟩
  refine hK.out _ _ (fun _ => hHeldwb) ?_
  clear hK K d5
  (try simp only [Act.put, List.setIfInBounds_toArray, List.set_cons_zero, List.set_cons_succ])
  refine wpG_one 12 rfl (by kernel_rfl) (fun K hK => ?_)
  refine stepR_call rfl 106 _ _ rfl #[.agg #[.slice (some ⟨bw, 0, none⟩) (y.wL J) cbw, .int .i64 12]] (by simp [Act.eval]) (run_enter Tryz.func106 (by kernel_rfl) rfl) (HWi.out wb qwb) ?_
  rintro e wd ⟨a6, c6, rfl, o6, n6, d6⟩
  refine ⟨_, rfl, ?_⟩
  have qwd : Below W4.heap.size W4 wd := qwb.trans (d6.mono qwb.size)
  have hcwd := (bcell qwd).1
  have hHeldwd : (fun w' => w'.cell? ⟨w.heap.size, 0, none⟩ = some (.slice (some ⟨gp, 0, none⟩) y.pn cp) ∧ w'.cell? ⟨w.heap.size, 1, none⟩ = some (.slice (some ⟨gs, 0, none⟩) y.sn cs) ∧ w'.cell? ⟨w.heap.size, 2, none⟩ = some (.slice (some ⟨gw, 0, none⟩) y.wn cw) ∧ w'.cell? ⟨w.heap.size, 3, none⟩ = some (.slice (some ⟨gh, 0, none⟩) y.hn ch) ∧ w'.cell? ⟨w.heap.size + 1, 1, none⟩ = some (.int .i64 (r : Int)) ∧ w'.cell? ⟨w.heap.size + 1, 2, none⟩ = some (.int .i64 v0) ∧ w'.cell? ⟨gw, J, none⟩ = some (uw9 J)) wd := ⟨(hcwd _ _ m0).trans b0, (hcwd _ _ m0).trans b1, (hcwd _ _ m0).trans b2, (hcwd _ _ m0).trans b3, (hcwd _ _ mN).trans k1, (hcwd _ _ mN).trans k2, (hcwd _ _ lw).trans cellw⟩
  replace o6 := o6.mono qwb.size
  have hfw : ∀ j, wd.frozen? ⟨gw, j, none⟩ = false := fun j => ((bcell qwd).2 _ j lw).trans (fw j)
  have H3 : Hid (Hp w B c k (r : Int) v0 ((y.evt p k (r : Int) v0).setW J (y.wL J - 1) (fun i => y.wH J (i + 1))) (.slice (some ⟨gp, 0, none⟩) y.pn cp) (.slice (some ⟨gs, 0, none⟩) y.sn cs) (.slice (some ⟨gw, 0, none⟩) y.wn cw) (.slice (some ⟨gh, 0, none⟩) y.hn ch) (wd.setCell ⟨gw, J, none⟩ (.slice a6 (y.wL J - 1) c6))) := H2.out.putW hB hJ qwd o6 n6
  refine hK.out _ _ (fun _ => hHeldwd) ?_
  clear hHeld
  have hHeld := hHeldwd
  clear hK K
  (try simp only [Act.put, List.setIfInBounds_toArray, List.set_cons_zero, List.set_cons_succ])
  refine wpG_take 13 rfl hHeld ?_
  apply Exists.intro
  refine ⟨fun wq hSw => ?_, ?_⟩
  ·(try dsimp only at hSw)
   go_simp
   try with_reducible rfl
  (try simp only [Act.put, List.setIfInBounds_toArray, List.set_cons_zero, List.set_cons_succ])
  refine wpG_one 14 rfl (by kernel_rfl) (fun K hK => ?_)
  have hcN := hHeld.2.2.2.2.2.2
  have hfN := hfw J
  go_simp
  refine hK.out _ _ (fun h => ?_) ?_
  ·exact absurd h (by decide)
  clear hK K
  (try simp only [Act.put, List.setIfInBounds_toArray, List.set_cons_zero, List.set_cons_succ])
  refine wpG_done (by kernel_rfl) ?_ _
  clear hcN hfN hHeld hfw
  go_wp2_with fail
  go_end0
  exact ⟨rfl, H3.out.be, H3.out.kp, by
   rw [HY.out]
   exact H3.out.own⟩
 ·have hk2 : k ≠ 2 := by simpa using t2
  have hk3 : k ≠ 3 := by simpa using t3
  have HY : Hid ((y.evt p k q v0).way p k q v0 = y.evt p k q v0) := Sy.way_no _ p hk2 hk3 q v0
  obtain ⟨k0, k1, k2, kf⟩ := H2.out.ev
  clear hk2 hk3
  go_wp2_with fail
  go_end0
  exact ⟨rfl, H2.out.be, H2.out.kp, by
   rw [HY.out]
   exact H2.out.own⟩
theorem cm_take {y : Sy} {p : Nat} {f : Int} (h : cmS y p f = 0) (hk : y.nk p = 3) : tkS y p (y.eq p f) = 0 := by
 unfold cmS at h
 rw [Sy.eq, if_pos hk]
 by_cases h1 : (y.sS p).c ≠ 0
 ·rw [if_pos h1] at h
  cases h
 ·rw [if_neg h1] at h
  by_cases h2 : fuS y p (y.nk p) (y.nq p) = true
  ·rw [if_pos h2] at h
   cases h
  ·rw [if_neg h2, if_pos hk] at h
   exact h
theorem tk_zero {y : Sy} {p : Nat} {g : Int} (h : tkS y p g = 0) : 0 ≤ g ∧ g < y.pn ∧ 0 < y.wL (g.toNat * y.pn + p) := by
 unfold tkS at h
 by_cases h1 : belB g y.pn = true
 ·rw [if_pos h1] at h
  simp only [belB, decide_eq_true_eq] at h1
  refine ⟨h1.1, h1.2, ?_⟩
  rcases Nat.eq_zero_or_pos (y.wL (g.toNat * y.pn + p)) with e | e
  ·rw [if_pos e] at h
   cases h
  ·exact e
 ·rw [if_neg h1] at h
  cases h
theorem cmV_step {x : SysIn} {p : Nat} {f : Int} (h : cmS x.y p f = 0) : cmV x p f = evV (x.y.nk p) (x.y.eq p f) (x.y.ev p f) := by
 have hc : cmC x p f = 0 := h
 unfold cmV
 rw [if_pos hc]
 by_cases hk : x.nk p = 3
 ·have ht : tkS x.y p (x.y.eq p f) = 0 := cm_take h hk
  have e : x.y.eq p f = if x.nq p = 9 then f else x.nq p := if_pos hk
  have e2 : x.y.ev p f = (x.y.wH ((x.y.eq p f).toNat * x.y.pn + p) 0).v := if_pos hk
  have e3 : x.y.nk p = 3 := hk
  rw [if_pos hk, ← e, e2, e3, tkV]
  have ht' : tkC x p (x.y.eq p f) = 0 := ht
  rw [if_pos ht']
  rfl
 ·have e : x.y.eq p f = x.nq p := if_neg hk
  have e2 : x.y.ev p f = x.nv p := if_neg hk
  rw [if_neg hk, e, e2]
  rfl
theorem implStep_any (x : SysIn) (p f : Int) (w : World) (hG : SysG w x) (hL : x.Len) (hN : x.Nn) (hV : w.cell? ⟨0, 0, none⟩ = some (.iface 236 (.agg #[.pointer (some ⟨1, 185, none⟩)]))) :
  Calls Tryz.prog 18 #[x.v, .int .i64 p, .int .i64 f] w fun e w' => ∃ v, e = .returned (.tuple #[v, .int .i64 (stC x.y p f)]) ∧ OwnSys w' w.heap.size (stY x.y p f) v ∧ Below w.heap.size w w' := by
 have HG : Hid (SysG w x) := hG
 have HL : Hid x.Len := hL
 have HS : Hid (∀ wx, Below w.heap.size w wx → Calls Tryz.prog 27 #[x.v] wx fun e w' => e = .returned (.bool x.y.okB) ∧ Below wx.heap.size wx w') := fun wx hb => implSysOk_any x wx (HG.out.below hb) hL ((hb.cell (p := ⟨0, 0, none⟩) (World.block_lt_of_cell? w _ hV)).trans hV)
 have HC4 : Hid (∀ wx, Below w.heap.size w wx → Calls Tryz.prog 49 #[x.v] wx fun e w' => ∃ v, e = .returned v ∧ OwnSys w' wx.heap.size x.y v ∧ Below wx.heap.size wx w') := fun wx hb => copySys_any x wx (HG.out.below hb) hL hN
 have BW : Hid (Below w.heap.size w ((w.alloc (oQ4 x.pa x.pn x.pc x.sa x.sn x.sc x.wa x.wn x.wc x.ha x.hn x.hc)).alloc (zQ3))) := (below_allocL _ _).trans ((below_allocL _ _).mono (by simp))
 have NB : Hid (BoxC ((w.alloc (oQ4 x.pa x.pn x.pc x.sa x.sn x.sc x.wa x.wn x.wc x.ha x.hn x.hc)).alloc (zQ3)) w.heap.size (.slice x.pa x.pn x.pc) (.slice x.sa x.sn x.sc) (.slice x.wa x.wn x.wc) (.slice x.ha x.hn x.hc)) := (BoxC.new w _ _ _ _ _).below (below_allocL _ _)
 have RB : Hid (BoxC ((w.alloc (oQ4 x.pa x.pn x.pc x.sa x.sn x.sc x.wa x.wn x.wc x.ha x.hn x.hc)).alloc (zQ3)) (w.heap.size + 1) (.slice none 0 0) (.slice none 0 0) (.slice none 0 0) (.slice none 0 0) ∧ ∀ j, ((w.alloc (oQ4 x.pa x.pn x.pc x.sa x.sn x.sc x.wa x.wn x.wc x.ha x.hn x.hc)).alloc (zQ3)).frozen? ⟨w.heap.size + 1, j, none⟩ = false) := ⟨⟨new_cell _ _ _ 0 (by simp), new_cell _ _ _ 1 (by simp), new_cell _ _ _ 2 (by simp), new_cell _ _ _ 3 (by simp)⟩, fun j => new_frozen _ _ _ _ (by simp)⟩
 have hM : w.heap.size ≤ w.heap.size + 1 := Nat.le_succ _
 clear hG hL hN hV
 go_enter Tryz.func18, Tryz.ntmps18
 go_wp2_with fail
 generalize (w.alloc (oQ4 x.pa x.pn x.pc x.sa x.sn x.sc x.wa x.wn x.wc x.ha x.hn x.hc)).alloc (zQ3) = W2 at *
 refine (HS.out W2 BW.out).mono ?_
 rintro e w1 ⟨rfl, q1⟩
 have B1 : Hid (Below w.heap.size w w1 ∧ BoxC w1 w.heap.size (.slice x.pa x.pn x.pc) (.slice x.sa x.sn x.sc) (.slice x.wa x.wn x.wc) (.slice x.ha x.hn x.hc) ∧ BoxC w1 (w.heap.size + 1) (.slice none 0 0) (.slice none 0 0) (.slice none 0 0) (.slice none 0 0) ∧ ∀ j, w1.frozen? ⟨w.heap.size + 1, j, none⟩ = false) := ⟨BW.out.trans (q1.mono BW.out.size), NB.out.below q1, RB.out.1.below q1, fun j => ((bcell q1).2 _ j (World.block_lt_of_cell? _ _ RB.out.1.1)).trans (RB.out.2 j)⟩
 clear q1 BW NB RB HS
 have l1 : w.heap.size + 1 < w1.heap.size := World.block_lt_of_cell? _ _ B1.out.2.2.1.1
 obtain ⟨b0, b1, b2, b3⟩ := B1.out.2.1
 rcases Bool.eq_false_or_eq_true x.y.okB with t | t
 case inr =>
  have HV : Hid (stC x.y p f = 1 ∧ stY x.y p f = { x.y with pn := 0, sn := 0, wn := 0, hn := 0 }) := ⟨if_neg (by rw [t]; simp), if_neg (by rw [t]; simp)⟩
  obtain ⟨⟨r0, r1, r2, r3⟩, rf⟩ := B1.out.2.2
  rw [t]
  clear t
  go_wp2
  exact bodyPost_ret (v := .tuple #[sysV none 0 0 none 0 0 none 0 0 none 0 0, .int .i64 1]) (by simp [results, Tryz.results18, go_sem, r0, r1, r2, r3]) rfl ⟨_, by rw [HV.out.1], by rw [HV.out.2]; exact OwnSys.zero _ _ _, (((B1.out.1.setCell hM _).setCell hM _).setCell hM _).setCell hM _⟩
 have HO : Hid x.y.Ok := Sy.ok_of t
 obtain ⟨k, q, v0, HCM⟩ : ∃ k q v0 : Int, Hid ((∀ wx, Below w.heap.size w wx → Calls Tryz.prog 50 #[x.v, .int .i64 p, .int .i64 f] wx fun e w' => e = .returned (.tuple #[evV k q v0, .int .i64 (stC x.y p f)]) ∧ Below wx.heap.size wx w') ∧ (stC x.y p f ≠ 0 → stY x.y p f = x.y) ∧ (stC x.y p f = 0 → ∃ a : Nat, p = a ∧ a < x.y.pn ∧ stY x.y p f = (x.y.evt a k q v0).way a k q v0 ∧ (k = 2 → 0 ≤ q ∧ q < x.y.pn) ∧ (k = 3 → 0 ≤ q ∧ q < x.y.pn ∧ 0 < x.y.wL (q.toNat * x.y.pn + a)))) := by
  by_cases hb : belB p x.y.pn = true
  ·have hb' : 0 ≤ p ∧ p < (x.y.pn : Int) := by simpa [belB] using hb
   obtain ⟨a, rfl⟩ : ∃ a : Nat, p = a := ⟨p.toNat, by omega⟩
   have ha : a < x.y.pn := by omega
   obtain ⟨⟨h1, h4⟩, hs, hh, hw⟩ := HO.out.cn
   have hC : stC x.y (a : Int) f = cmS x.y a f := by rw [stC, if_pos t, if_pos hb, Int.toNat_natCast]
   have hY : stY x.y (a : Int) f = x.y.step a f := by rw [stY, if_pos t, if_pos hb, Int.toNat_natCast]
   have hcall : ∀ wx, Below w.heap.size w wx → Calls Tryz.prog 50 #[x.v, .int .i64 a, .int .i64 f] wx fun e w' => e = .returned (.tuple #[cmV x a f, .int .i64 (cmC x a f)]) ∧ Below wx.heap.size wx w' := fun wx hbx => comingIn_any x a f wx (HG.out.below hbx) HL.out ha h4 hs hh hw (HO.out.four ha) (HO.out.peer ha)
   by_cases h0 : cmS x.y a f = 0
   ·refine ⟨x.y.nk a, x.y.eq a f, x.y.ev a f, fun wx hbx => ?_, fun hne => absurd (hC.trans h0) hne, fun _ => ⟨a, rfl, ha, ?_, fun hk => ?_, fun hk => ?_⟩⟩
    ·rw [hC, ← cmV_step h0]
     exact hcall wx hbx
    ·rw [hY, Sy.step, if_pos h0, Sy.way_evt]
    ·have := HO.out.peer ha hk
     rw [Sy.eq, if_neg (by rw [hk]; decide)]
     exact this
    ·exact tk_zero (cm_take h0 hk)
   ·refine ⟨0, 0, 0, fun wx hbx => ?_, fun _ => hY.trans (Sy.step_no h0), fun h => absurd (hC.symm.trans h) h0⟩
    have e : cmV x a f = evV 0 0 0 := if_neg h0
    rw [hC, ← e]
    exact hcall wx hbx
  ·have hC : stC x.y p f = 2 := by rw [stC, if_pos t, if_neg hb]
   refine ⟨0, 0, 0, fun wx _ => ?_, fun _ => ?_, fun h => ?_⟩
   ·rw [hC]
    exact comingIn_out x p f wx (by
     cases h : belB p x.pn with
     | false => rfl
     | true => exact absurd h hb)
   ·rw [stY, if_pos t, if_neg hb]
   ·rw [hC] at h
    cases h
 generalize hC : stC x.y p f = C at *
 generalize hY : stY x.y p f = Y at *
 have HCY : Hid (stC x.y p f = C ∧ stY x.y p f = Y) := ⟨hC, hY⟩
 clear hC hY
 rw [t]
 clear t HL HG
 go_wp2_with fail
 refine (HC4.out w1 B1.out.1).mono ?_
 rintro e w3 ⟨v3, rfl, o3, q3⟩
 obtain ⟨c, vp, vs, vw, vh, up, us, uw, uh, rfl, o3⟩ := o3
 obtain ⟨pa, pc, rfl⟩ := ownsRow_slice o3.p.row
 obtain ⟨sa, sc, rfl⟩ := ownsRow_slice o3.s.row
 obtain ⟨wa, wc, rfl⟩ := ownsRow_slice o3.t.row
 obtain ⟨ha, hc, rfl⟩ := ownsRow_slice o3.h.row
 have ba := below_allocL w3 (oQ4 pa x.y.pn pc sa x.y.sn sc wa x.y.wn wc ha x.y.hn hc)
 have Q4 := q3.trans (ba.mono q3.size)
 have B4 : Hid (Below w1.heap.size w1 (w3.alloc (oQ4 pa x.y.pn pc sa x.y.sn sc wa x.y.wn wc ha x.y.hn hc)) ∧ BoxC (w3.alloc (oQ4 pa x.y.pn pc sa x.y.sn sc wa x.y.wn wc ha x.y.hn hc)) w3.heap.size (.slice pa x.y.pn pc) (.slice sa x.y.sn sc) (.slice wa x.y.wn wc) (.slice ha x.y.hn hc) ∧ OwnS (w3.alloc (oQ4 pa x.y.pn pc sa x.y.sn sc wa x.y.wn wc ha x.y.hn hc)) w1.heap.size (rcol c w3.heap.size 0) x.y (.slice pa x.y.pn pc) (.slice sa x.y.sn sc) (.slice wa x.y.wn wc) (.slice ha x.y.hn hc) up us uw uh ∧ w1.heap.size ≤ w3.heap.size) := ⟨Q4, BoxC.new w3 _ _ _ _ _, (o3.recol 0).below ba, q3.size⟩
 go_upto_region 4 with fail
 clear o3 q3 ba b0 b1 b2 b3
 generalize hA : w3.heap.size = A at *
 clear hA
 generalize w3.alloc (oQ4 pa x.y.pn pc sa x.y.sn sc wa x.y.wn wc ha x.y.hn hc) = W4 at *
 have BW4 : Hid (Below w.heap.size w W4) := B1.out.1.trans (B4.out.1.mono B1.out.1.size)
 obtain ⟨b0, b1, b2, b3⟩ := B1.out.2.1.below B4.out.1
 go_wp2_with fail
 refine (HCM.out.1 W4 BW4.out).mono ?_
 rintro e w5 ⟨rfl, q5⟩
 have bb := below_allocL w5 (oQ1 k q v0)
 have Q6 := q5.trans (bb.mono q5.size)
 have lA : A < W4.heap.size := World.block_lt_of_cell? _ _ B4.out.2.1.1
 have B6 : Hid (Below w1.heap.size w1 (w5.alloc (oQ1 k q v0)) ∧ BoxC (w5.alloc (oQ1 k q v0)) A (.slice pa x.y.pn pc) (.slice sa x.y.sn sc) (.slice wa x.y.wn wc) (.slice ha x.y.hn hc) ∧ OwnS (w5.alloc (oQ1 k q v0)) w1.heap.size (rcol c A 0) x.y (.slice pa x.y.pn pc) (.slice sa x.y.sn sc) (.slice wa x.y.wn wc) (.slice ha x.y.hn hc) up us uw uh ∧ w1.heap.size ≤ A ∧ A < (w5.alloc (oQ1 k q v0)).heap.size ∧ EvK (w5.alloc (oQ1 k q v0)) w5.heap.size k q v0) := ⟨B4.out.1.trans (Q6.mono B4.out.1.size), B4.out.2.1.below Q6, B4.out.2.2.1.below Q6, B4.out.2.2.2, Nat.lt_of_lt_of_le lA Q6.size, EvK.new w5 _ _ _ _⟩
 go_upto_region 5 with fail
 clear q5 bb Q6 lA B4 BW4 b0 b1 b2 b3
 generalize hE : w5.heap.size = E at *
 clear hE
 generalize w5.alloc (oQ1 k q v0) = W6 at *
 by_cases hc0 : C = 0
 ·obtain ⟨a, ea, ha', hY, hk2, hk3⟩ := HCM.out.2.2 hc0
  subst ea
  subst hc0
  have HH : Hid (Calls Tryz.prog 51 #[.agg #[.slice pa x.y.pn pc, .slice sa x.y.sn sc, .slice wa x.y.wn wc, .slice ha x.y.hn hc], .int .i64 a, evV k q v0] W6 fun e w' => e = .returned (.tuple #[]) ∧ Below w1.heap.size W6 w' ∧ (∀ b, b < W6.heap.size → rcol c A 0 b = 0 → w'.heap[b]? = W6.heap[b]?) ∧ OwnSys w' w1.heap.size Y (.agg #[.slice pa x.y.pn pc, .slice sa x.y.sn sc, .slice wa x.y.wn wc, .slice ha x.y.hn hc])) := by
   have h := happen_any x.y a k q v0 W6 w1.heap.size _ _ _ _ _ up us uw uh B6.out.2.2.1 B6.out.1.size HO.out ha' hk2 hk3
   rw [← hY] at h
   exact h
  obtain ⟨a0, a1, a2, a3⟩ := B6.out.2.1
  obtain ⟨e0, e1, e2, -⟩ := B6.out.2.2.2.2.2
  clear hY hk2 hk3 HCM
  go_wp2_with fail
  refine HH.out.mono ?_
  rintro e w7 ⟨rfl, q7, kp, o7⟩
  have hAb := kp A B6.out.2.2.2.2.1 (rcol_new (Nat.le_refl _))
  have B7 : Hid (Below w1.heap.size w1 w7 ∧ OwnSys w7 w1.heap.size Y (.agg #[.slice pa x.y.pn pc, .slice sa x.y.sn sc, .slice wa x.y.wn wc, .slice ha x.y.hn hc])) := ⟨B6.out.1.trans q7, o7⟩
  have c0 := (World.cell?_of_block hAb).trans a0
  have c1 := (World.cell?_of_block hAb).trans a1
  have c2 := (World.cell?_of_block hAb).trans a2
  have c3 := (World.cell?_of_block hAb).trans a3
  obtain ⟨r0, r1, r2, r3⟩ := B1.out.2.2.1.below B7.out.1
  have rf : ∀ j, w7.frozen? ⟨w.heap.size + 1, j, none⟩ = false := fun j => ((bcell B7.out.1).2 _ j l1).trans (B1.out.2.2.2 j)
  clear a0 a1 a2 a3 e0 e1 e2 hAb kp o7 q7 HH
  go_wp2
  exact bodyPost_ret (v := .tuple #[.agg #[.slice pa x.y.pn pc, .slice sa x.y.sn sc, .slice wa x.y.wn wc, .slice ha x.y.hn hc], .int .i64 0]) (by simp [results, Tryz.results18, go_sem, r0, r1, r2, r3]) rfl ⟨_, by rw [HCY.out.1], by
   rw [HCY.out.2]
   exact ((((B7.out.2.setBelow l1 0 _).setBelow l1 1 _).setBelow l1 2 _).setBelow l1 3 _).base B1.out.1.size, ((((B1.out.1.trans (B7.out.1.mono B1.out.1.size)).setCell hM _).setCell hM _).setCell hM _).setCell hM _⟩
 ·have tc : (C == 0) = false := by simpa using hc0
  have hY := HCM.out.2.1 hc0
  have B7 : Hid (Below w1.heap.size w1 W6 ∧ OwnSys W6 w1.heap.size Y (.agg #[.slice pa x.y.pn pc, .slice sa x.y.sn sc, .slice wa x.y.wn wc, .slice ha x.y.hn hc])) := ⟨B6.out.1, by
   rw [hY]
   exact ⟨_, _, _, _, _, up, us, uw, uh, rfl, B6.out.2.2.1⟩⟩
  obtain ⟨c0, c1, c2, c3⟩ := B6.out.2.1
  obtain ⟨r0, r1, r2, r3⟩ := B1.out.2.2.1.below B7.out.1
  have rf : ∀ j, W6.frozen? ⟨w.heap.size + 1, j, none⟩ = false := fun j => ((bcell B7.out.1).2 _ j l1).trans (B1.out.2.2.2 j)
  clear hY HCM hc0
  go_wp2
  exact bodyPost_ret (v := .tuple #[.agg #[.slice pa x.y.pn pc, .slice sa x.y.sn sc, .slice wa x.y.wn wc, .slice ha x.y.hn hc], .int .i64 C]) (by simp [results, Tryz.results18, go_sem, r0, r1, r2, r3]) rfl ⟨_, by rw [HCY.out.1], by
   rw [HCY.out.2]
   exact ((((B7.out.2.setBelow l1 0 _).setBelow l1 1 _).setBelow l1 2 _).setBelow l1 3 _).base B1.out.1.size, ((((B1.out.1.trans (B7.out.1.mono B1.out.1.size)).setCell hM _).setCell hM _).setCell hM _).setCell hM _⟩
theorem stepLaw_small (x : SysIn) (z1 z2 : Int) (W : World) (hs : x.size ≤ 1048576) (hA : x.Ok W) (hV : W.cell? ⟨0, 0, none⟩ = some (.iface 236 (.agg #[.pointer (some ⟨1, 185, none⟩)]))) :
  Calls Tryz.prog 4 #[sysV x.pa x.pn x.pc x.sa x.sn x.sc x.wa x.wn x.wc x.ha x.hn x.hc, .int .i64 z1, .int .i64 z2] W fun e w' => e = .returned (.bool true) ∧ Below W.heap.size W w' := by
 have HS : Hid (x.size ≤ 1048576) := hs
 have HA : Hid (x.Ok W) := hA
 have HV : Hid (W.cell? ⟨0, 0, none⟩ = some (.iface 236 (.agg #[.pointer (some ⟨1, 185, none⟩)]))) := hV
 have HV0 : Hid (0 < W.heap.size) := World.block_lt_of_cell? W _ hV
 have hsz : ¬ (1048576 - (x.size : Int) < 0) := by omega
 have X0 : Hid (Px W x (W.alloc (.cells #[.slice x.pa x.pn x.pc, .slice x.sa x.sn x.sc, .slice x.wa x.wn x.wc, .slice x.ha x.hn x.hc] 42))) := ⟨below_allocS _ _, BoxC.new W _ _ _ _ _, by simp⟩
 have HSM : Hid (stY x.y z1 z2).Sm := stY_sm _ _ _
 clear hs hA hV
 obtain ⟨Y, hY⟩ : ∃ Y, stY x.y z1 z2 = Y := ⟨_, rfl⟩
 obtain ⟨C, hC⟩ : ∃ C, stC x.y z1 z2 = C := ⟨_, rfl⟩
 rw [hY] at HSM
 have HYC : Hid (stY x.y z1 z2 = Y ∧ stC x.y z1 z2 = C) := ⟨hY, hC⟩
 clear hY hC
 go_enter Tryz.func4, Tryz.ntmps4
 go_wp2_with fail
 generalize W.alloc (.cells #[.slice x.pa x.pn x.pc, .slice x.sa x.sn x.sc, .slice x.wa x.wn x.wc, .slice x.ha x.hn x.hc] 42) = wA at *
 refine (szSys_small x wA (HA.out.row.below X0.out.be) HS.out).mono ?_
 rintro e w0 ⟨rfl, b0⟩
 have X1 : Hid (Px W x w0) := X0.out.below b0
 clear b0 X0
 obtain ⟨-, ⟨p0, p1, p2, p3⟩, lt⟩ := X1.out
 go_wp2_with fail
 clear p0 p1 p2 p3 lt
 refine (toSys_any x W w0 HS.out HA.out X1.out.be).mono ?_
 rintro e w1 ⟨v1, rfl, o1, b1⟩
 obtain ⟨x1, rfl, g1, y1, cp1⟩ := o1.g2
 have O1 : Hid (SysG w1 x1 ∧ x1.y = x.y ∧ ∀ i, i < x1.hn → x1.hL i ≤ x1.hC i) := ⟨g1, y1, cp1⟩
 have X2 : Hid (Px W x w1) := X1.out.below b1
 clear b1 X1 o1 g1 y1 cp1
 go_wp2_with fail
 refine (specStep_any x1 z1 z2 w1 O1.out.1 (SysIn.len_of HS.out O1.out.2.1) O1.out.2.2).mono ?_
 rintro e w2 ⟨v2, rfl, o2, b2⟩
 rw [O1.out.2.1, HYC.out.1] at o2
 rw [O1.out.2.1, HYC.out.2]
 obtain ⟨pa, pc, sa, sc, wa, wc, ha, hc, rfl, n2⟩ := Own0.of o2
 have ba := below_allocS w2 (oQ4 pa Y.pn pc sa Y.sn sc wa Y.wn wc ha Y.hn hc)
 have X3 : Hid (Px W x (w2.alloc (oQ4 pa Y.pn pc sa Y.sn sc wa Y.wn wc ha Y.hn hc)) ∧ Own0 (w2.alloc (oQ4 pa Y.pn pc sa Y.sn sc wa Y.wn wc ha Y.hn hc)) w1.heap.size w2.heap.size Y (.slice pa Y.pn pc) (.slice sa Y.sn sc) (.slice wa Y.wn wc) (.slice ha Y.hn hc) ∧ BoxC (w2.alloc (oQ4 pa Y.pn pc sa Y.sn sc wa Y.wn wc ha Y.hn hc)) w2.heap.size (.slice pa Y.pn pc) (.slice sa Y.sn sc) (.slice wa Y.wn wc) (.slice ha Y.hn hc) ∧ W.heap.size < w1.heap.size ∧ w1.heap.size ≤ w2.heap.size ∧ w2.heap.size < (w2.alloc (oQ4 pa Y.pn pc sa Y.sn sc wa Y.wn wc ha Y.hn hc)).heap.size) := ⟨(X2.out.below b2).below ba, n2.below ba, BoxC.new w2 _ _ _ _ _, X2.out.lt, b2.size, by simp⟩
 go_upto_region 6 with fail
 clear b2 X2 o2 n2 O1 ba
 generalize hN1 : w1.heap.size = N1 at *
 generalize hT8 : w2.heap.size = T8 at *
 clear hN1 hT8
 generalize w2.alloc (oQ4 pa Y.pn pc sa Y.sn sc wa Y.wn wc ha Y.hn hc) = w2a at *
 obtain ⟨-, ⟨p0, p1, p2, p3⟩, lt⟩ := X3.out.1
 go_wp2_with fail
 clear p0 p1 p2 p3 lt
 refine (toSys_any x W w2a HS.out HA.out X3.out.1.be).mono ?_
 rintro e w3 ⟨v3, rfl, o3, b3⟩
 obtain ⟨x3, rfl, g3, y3, cp3, nn3⟩ := o3.g3
 have ba := below_allocS w3 (oQ4 x3.pa x3.pn x3.pc x3.sa x3.sn x3.sc x3.wa x3.wn x3.wc x3.ha x3.hn x3.hc)
 have F3 : Hid (Px W x (w3.alloc (oQ4 x3.pa x3.pn x3.pc x3.sa x3.sn x3.sc x3.wa x3.wn x3.wc x3.ha x3.hn x3.hc)) ∧ Own0 (w3.alloc (oQ4 x3.pa x3.pn x3.pc x3.sa x3.sn x3.sc x3.wa x3.wn x3.wc x3.ha x3.hn x3.hc)) N1 T8 Y (.slice pa Y.pn pc) (.slice sa Y.sn sc) (.slice wa Y.wn wc) (.slice ha Y.hn hc) ∧ BoxC (w3.alloc (oQ4 x3.pa x3.pn x3.pc x3.sa x3.sn x3.sc x3.wa x3.wn x3.wc x3.ha x3.hn x3.hc)) T8 (.slice pa Y.pn pc) (.slice sa Y.sn sc) (.slice wa Y.wn wc) (.slice ha Y.hn hc) ∧ IsSys (w3.alloc (oQ4 x3.pa x3.pn x3.pc x3.sa x3.sn x3.sc x3.wa x3.wn x3.wc x3.ha x3.hn x3.hc)) w2a.heap.size w3.heap.size x x3.v ∧ BoxC (w3.alloc (oQ4 x3.pa x3.pn x3.pc x3.sa x3.sn x3.sc x3.wa x3.wn x3.wc x3.ha x3.hn x3.hc)) w3.heap.size (.slice x3.pa x3.pn x3.pc) (.slice x3.sa x3.sn x3.sc) (.slice x3.wa x3.wn x3.wc) (.slice x3.ha x3.hn x3.hc)) := ⟨(X3.out.1.below b3).below ba, (X3.out.2.1.below b3).below ba, (X3.out.2.2.1.below b3).below ba, o3.below ba (Nat.le_refl _), BoxC.new w3 _ _ _ _ _⟩
 have LT : Hid (W.heap.size < N1 ∧ N1 ≤ T8 ∧ T8 < w2a.heap.size ∧ w2a.heap.size ≤ w3.heap.size ∧ w3.heap.size < (w3.alloc (oQ4 x3.pa x3.pn x3.pc x3.sa x3.sn x3.sc x3.wa x3.wn x3.wc x3.ha x3.hn x3.hc)).heap.size) := ⟨X3.out.2.2.2.1, X3.out.2.2.2.2.1, X3.out.2.2.2.2.2, b3.size, by simp⟩
 have Ga : Hid (SysG (w3.alloc (oQ4 x3.pa x3.pn x3.pc x3.sa x3.sn x3.sc x3.wa x3.wn x3.wc x3.ha x3.hn x3.hc)) x3 ∧ x3.y = x.y ∧ x3.Nn) := ⟨g3.below ba, y3, nn3⟩
 go_upto_region 7 with fail
 clear b3 o3 g3 y3 cp3 nn3 ba X3
 generalize hlo : w2a.heap.size = lo at *
 generalize hT10 : w3.heap.size = T10 at *
 clear hlo hT10
 generalize w3.alloc (oQ4 x3.pa x3.pn x3.pc x3.sa x3.sn x3.sc x3.wa x3.wn x3.wc x3.ha x3.hn x3.hc) = wB at *
 obtain ⟨p0, p1, p2, p3⟩ := F3.out.2.2.2.2
 go_wp2_with fail
 clear p0 p1 p2 p3
 refine (implStep_any x3 z1 z2 wB Ga.out.1 (SysIn.len_of HS.out Ga.out.2.1) Ga.out.2.2 ((F3.out.1.be.cell (p := ⟨0, 0, none⟩) HV0.out).trans HV.out)).mono ?_
 rintro e w4 ⟨v4, rfl, o4, b4⟩
 rw [Ga.out.2.1, HYC.out.1] at o4
 rw [Ga.out.2.1, HYC.out.2]
 obtain ⟨qa, qc, ra, rc, ta, tc, ua, uc, rfl, n4⟩ := Own0.of o4
 have ba := below_allocS w4 (oQ4 qa Y.pn qc ra Y.sn rc ta Y.wn tc ua Y.hn uc)
 have q4 := b4.trans (ba.mono b4.size)
 have F4 : Hid (StF W x Y x3 N1 T8 lo T10 wB.heap.size w4.heap.size (.slice pa Y.pn pc) (.slice sa Y.sn sc) (.slice wa Y.wn wc) (.slice ha Y.hn hc) (.slice qa Y.pn qc) (.slice ra Y.sn rc) (.slice ta Y.wn tc) (.slice ua Y.hn uc) (w4.alloc (oQ4 qa Y.pn qc ra Y.sn rc ta Y.wn tc ua Y.hn uc))) := ⟨F3.out.1.below q4, F3.out.2.1.below q4, F3.out.2.2.1.below q4, F3.out.2.2.2.1.below q4 (Nat.le_of_lt LT.out.2.2.2.2), F3.out.2.2.2.2.below q4, n4.below ba, BoxC.new w4 _ _ _ _ _⟩
 have LT2 : Hid ((W.heap.size < N1 ∧ N1 ≤ T8 ∧ T8 < lo ∧ lo ≤ T10 ∧ T10 < wB.heap.size) ∧ wB.heap.size ≤ w4.heap.size) := ⟨LT.out, b4.size⟩
 go_upto_region 8 with fail
 clear b4 o4 n4 ba q4 F3 LT Ga
 generalize hB4 : wB.heap.size = B4 at *
 generalize hT11 : w4.heap.size = T11 at *
 clear hB4 hT11
 generalize w4.alloc (oQ4 qa Y.pn qc ra Y.sn rc ta Y.wn tc ua Y.hn uc) = wC at *
 obtain ⟨p0, p1, p2, p3⟩ := F4.out.b8
 obtain ⟨q0, q1, q2, q3⟩ := F4.out.b11
 go_wp2_with fail
 clear p0 p1 p2 p3 q0 q1 q2 q3
 refine (eqSys_own Y B4 N1 _ _ wC HSM.out.len F4.out.o4.sys F4.out.o2.sys).mono ?_
 rintro e w5 ⟨rfl, b5⟩
 have F5 : Hid (StF W x Y x3 N1 T8 lo T10 B4 T11 (.slice pa Y.pn pc) (.slice sa Y.sn sc) (.slice wa Y.wn wc) (.slice ha Y.hn hc) (.slice qa Y.pn qc) (.slice ra Y.sn rc) (.slice ta Y.wn tc) (.slice ua Y.hn uc) w5) := F4.out.below b5
 clear b5 F4
 obtain ⟨-, ⟨p0, p1, p2, p3⟩, lt⟩ := F5.out.px
 obtain ⟨q0, q1, q2, q3⟩ := F5.out.b10
 have lq := F5.out.b10.ltF
 go_wp2_with fail
 first | (go_region_with (first | (go_at_call 17; refine (toSys_any x W _ HS.out HA.out (by exact F5.out.px.be.drew)).mono ?_; rintro e w6 ⟨v6, rfl, o6, b6⟩; have q6 : Below w5.heap.size w5 w6 := (Below.refl w5.heap.size w5).drew.trans b6; have T6 : Hid (∃ l, IsSys w6 l w6.heap.size x v6) := ⟨_, o6⟩; obtain ⟨r0, r1, r2, r3⟩ := F5.out.b10.below q6; have Q6 : Hid (Below w5.heap.size w5 w6) := q6; clear o6 b6 q6) | (go_at_call 10; refine (eqSys_same x lo T10 T6.out.choose _ _ v6 w6 HS.out (F5.out.s3.below Q6.out (Nat.le_of_lt F5.out.b10.ltF)) T6.out.choose_spec).mono ?_; rintro e w7 ⟨rfl, b7⟩; have Q7 : Hid (Below w5.heap.size w5 w7) := Q6.out.trans (b7.mono Q6.out.size); clear b7))) | fail
 all_goals
  clear r0 r1 r2 r3 p0 p1 p2 p3 lt q0 q1 q2 q3 lq T6 Q6
  have F7 : Hid (StF W x Y x3 N1 T8 lo T10 B4 T11 (.slice pa Y.pn pc) (.slice sa Y.sn sc) (.slice wa Y.wn wc) (.slice ha Y.hn hc) (.slice qa Y.pn qc) (.slice ra Y.sn rc) (.slice ta Y.wn tc) (.slice ua Y.hn uc) w7) := F5.out.below Q7.out
  clear Q7 F5
  obtain ⟨q0, q1, q2, q3⟩ := F7.out.b10
  go_wp2_with fail
  clear q0 q1 q2 q3
  refine (markSys_any x _ _ _ w7 HS.out F7.out.s3).mono ?_
  rintro e w8 ⟨⟨z, rfl, hz⟩, t8⟩
  have F8 : Hid (StG W x Y Y N1 T8 B4 T11 (.slice pa Y.pn pc) (.slice sa Y.sn sc) (.slice wa Y.wn wc) (.slice ha Y.hn hc) (.slice qa Y.pn qc) (.slice ra Y.sn rc) (.slice ta Y.wn tc) (.slice ua Y.hn uc) w8) := F7.out.mark t8 (by have := LT2.out; omega) (by have := LT2.out; omega) (by have := LT2.out; omega) LT2.out.2
  clear t8 F7
  obtain ⟨p0, p1, p2, p3⟩ := F8.out.b8
  obtain ⟨q0, q1, q2, q3⟩ := F8.out.b11
  go_wp2_with fail
  clear p0 p1 p2 p3 q0 q1 q2 q3
  refine (eqSys_own Y B4 N1 _ _ w8 HSM.out.len F8.out.o4.sys F8.out.o2.sys).mono ?_
  rintro e w9 ⟨rfl, b9⟩
  have F9 : Hid (StG W x Y Y N1 T8 B4 T11 (.slice pa Y.pn pc) (.slice sa Y.sn sc) (.slice wa Y.wn wc) (.slice ha Y.hn hc) (.slice qa Y.pn qc) (.slice ra Y.sn rc) (.slice ta Y.wn tc) (.slice ua Y.hn uc) w9) := F8.out.below b9
  clear b9 F8
  obtain ⟨q0, q1, q2, q3⟩ := F9.out.b11
  go_wp2_with fail
  clear q0 q1 q2 q3
  refine (markSys_0 Y B4 T11 _ _ _ _ w9 HSM.out.sums (by have := F9.out.b11.ltF; have := LT2.out; omega) F9.out.o4).mono ?_
  rintro e w10 ⟨rfl, o10, t10⟩
  have F10 : Hid (StG W x Y (mkY Y 1) N1 T8 B4 T11 (.slice pa Y.pn pc) (.slice sa Y.sn sc) (.slice wa Y.wn wc) (.slice ha Y.hn hc) (.slice qa Y.pn qc) (.slice ra Y.sn rc) (.slice ta Y.wn tc) (.slice ua Y.hn uc) w10) := F9.out.mark t10 o10 (by have := LT2.out; omega) (by have := LT2.out; omega)
  have HZ : Hid (¬ mkZ5 Y 1 < 0) := by
   have := (mkZ_bd HSM.out.sums).2.2.2
   show ¬ mkZ5 Y 1 < 0
   omega
  clear t10 o10 F9
  obtain ⟨q0, q1, q2, q3⟩ := F10.out.b11
  go_wp2_with fail
  clear q0 q1 q2 q3
  refine (heldSys_own Y B4 _ w10 HSM.out.sums F10.out.o4.sys).mono ?_
  rintro e w11 ⟨rfl, b11⟩
  have F11 : Hid (StG W x Y (mkY Y 1) N1 T8 B4 T11 (.slice pa Y.pn pc) (.slice sa Y.sn sc) (.slice wa Y.wn wc) (.slice ha Y.hn hc) (.slice qa Y.pn qc) (.slice ra Y.sn rc) (.slice ta Y.wn tc) (.slice ua Y.hn uc) w11) := F10.out.below b11
  clear b11 F10
  obtain ⟨-, ⟨p0, p1, p2, p3⟩, lt⟩ := F11.out.px
  have hz5 := HZ.out
  go_wp2_with fail
  clear p0 p1 p2 p3 lt hz5
  refine (toSys_any x W w11 HS.out HA.out F11.out.px.be).mono ?_
  rintro e w12 ⟨v12, rfl, o12, b12⟩
  obtain ⟨x12, rfl, g12, y12, -, nn12⟩ := o12.g3
  have S12 : Hid (SysG w12 x12 ∧ x12.y = x.y ∧ x12.Nn) := ⟨g12, y12, nn12⟩
  have F12 : Hid (StG W x Y (mkY Y 1) N1 T8 B4 T11 (.slice pa Y.pn pc) (.slice sa Y.sn sc) (.slice wa Y.wn wc) (.slice ha Y.hn hc) (.slice qa Y.pn qc) (.slice ra Y.sn rc) (.slice ta Y.wn tc) (.slice ua Y.hn uc) w12) := F11.out.below b12
  clear b12 F11 o12 g12 y12 nn12
  go_wp2_with fail
  refine (implStep_any x12 z1 z2 w12 S12.out.1 (SysIn.len_of HS.out S12.out.2.1) S12.out.2.2 ((F12.out.px.be.cell (p := ⟨0, 0, none⟩) HV0.out).trans HV.out)).mono ?_
  rintro e w13 ⟨v13, rfl, o13, b13⟩
  rw [S12.out.2.1, HYC.out.1] at o13
  rw [S12.out.2.1, HYC.out.2]
  obtain ⟨ka, kc, la, lc, ma, mc, na, nc, rfl, n13⟩ := Own0.of o13
  have ba := below_allocS w13 (oQ4 ka Y.pn kc la Y.sn lc ma Y.wn mc na Y.hn nc)
  have q13 := b13.trans (ba.mono b13.size)
  have F13 : Hid (StG W x Y (mkY Y 1) N1 T8 B4 T11 (.slice pa Y.pn pc) (.slice sa Y.sn sc) (.slice wa Y.wn wc) (.slice ha Y.hn hc) (.slice qa Y.pn qc) (.slice ra Y.sn rc) (.slice ta Y.wn tc) (.slice ua Y.hn uc) (w13.alloc (oQ4 ka Y.pn kc la Y.sn lc ma Y.wn mc na Y.hn nc)) ∧ Own0 (w13.alloc (oQ4 ka Y.pn kc la Y.sn lc ma Y.wn mc na Y.hn nc)) w12.heap.size w13.heap.size Y (.slice ka Y.pn kc) (.slice la Y.sn lc) (.slice ma Y.wn mc) (.slice na Y.hn nc) ∧ BoxC (w13.alloc (oQ4 ka Y.pn kc la Y.sn lc ma Y.wn mc na Y.hn nc)) w13.heap.size (.slice ka Y.pn kc) (.slice la Y.sn lc) (.slice ma Y.wn mc) (.slice na Y.hn nc)) := ⟨F12.out.below q13, n13.below ba, BoxC.new w13 _ _ _ _ _⟩
  go_upto_region 25 with fail
  clear b13 o13 n13 ba q13 F12 S12
  generalize hN12 : w12.heap.size = N12 at *
  generalize hT16 : w13.heap.size = T16 at *
  clear hN12 hT16
  generalize w13.alloc (oQ4 ka Y.pn kc la Y.sn lc ma Y.wn mc na Y.hn nc) = wD at *
  obtain ⟨p0, p1, p2, p3⟩ := F13.out.1.b8
  obtain ⟨q0, q1, q2, q3⟩ := F13.out.2.2
  go_wp2_with fail
  clear p0 p1 p2 p3 q0 q1 q2 q3
  refine (eqSys_own Y N12 N1 _ _ wD HSM.out.len F13.out.2.1.sys F13.out.1.o2.sys).mono ?_
  rintro e w14 ⟨rfl, b14⟩
  have F14 : Hid (StG W x Y (mkY Y 1) N1 T8 B4 T11 (.slice pa Y.pn pc) (.slice sa Y.sn sc) (.slice wa Y.wn wc) (.slice ha Y.hn hc) (.slice qa Y.pn qc) (.slice ra Y.sn rc) (.slice ta Y.wn tc) (.slice ua Y.hn uc) w14) := F13.out.1.below b14
  clear b14 F13
  obtain ⟨q0, q1, q2, q3⟩ := F14.out.b11
  go_wp2_with fail
  clear q0 q1 q2 q3
  refine (heldSys_own Y B4 _ w14 HSM.out.sums F14.out.o4.sys).mono ?_
  rintro e w15 ⟨rfl, b15⟩
  have F15 : Hid (StG W x Y (mkY Y 1) N1 T8 B4 T11 (.slice pa Y.pn pc) (.slice sa Y.sn sc) (.slice wa Y.wn wc) (.slice ha Y.hn hc) (.slice qa Y.pn qc) (.slice ra Y.sn rc) (.slice ta Y.wn tc) (.slice ua Y.hn uc) w15) := F14.out.below b15
  clear b15 F14
  have hz5 := HZ.out
  go_wp2
  go_ret
  exact ⟨rfl, F15.out.px.be⟩
theorem stepLaw_great (x : SysIn) (z1 z2 : Int) (W : World) (hr : x.Row W) (hm : x.Max) (hs : 1048576 < x.size) :
  Calls Tryz.prog 4 #[sysV x.pa x.pn x.pc x.sa x.sn x.sc x.wa x.wn x.wc x.ha x.hn x.hc, .int .i64 z1, .int .i64 z2] W fun e w' => e = .returned (.bool true) ∧ Below W.heap.size W w' := by
 have HR : Hid (x.Row W) := hr
 have HM : Hid x.Max := hm
 have HS : Hid (1048576 < x.size) := hs
 clear hr hm hs
 go_enter Tryz.func4, Tryz.ntmps4
 go_wp2_with fail
 refine (szSys_great x _ (HR.out.below (below_allocS _ _)) HM.out HS.out).mono ?_
 rintro e w0 ⟨rfl, b0⟩
 have B0 : Hid (Below W.heap.size W w0) := (below_allocS _ _).trans (b0.mono (by simp))
 clear b0
 go_wp2
 go_ret
 exact ⟨rfl, B0.out⟩
theorem stepLifted (os : Os) (started : os.Started) (H : Type) (enc : TypeId × Value → H) :
  ReturnsInHanded {} Tryz.checked os 4 .any (fun w args => (Rows.fnExactStepSpec.pre enc Tryz.prog Tryz.f4 [] false w args ∧ laidMetH Tryz.prog [("errors.errorType", Rows.laid_errors_errorType)] w) ∧ sizedMet enc Tryz.prog Tryz.f4 (OpenSpec.ofChange Rows.fnExactStepSpec) false w args)
   (Rows.fnExactStepSpec.post enc Tryz.prog Tryz.f4 false true false false) := by
 refine returnsInHanded_of_change_and (C := Tryz.checked) (X := fun w _ => laidMetH Tryz.prog [("errors.errorType", Rows.laid_errors_errorType)] w) (fun _ _ _ hh h => h.of_heap hh) Tryz.own started (by kernel_rfl) Tryz.func4
  (ChangeSpec.witness_at (enc := enc) (C := Tryz.checked) (os := os) (X := fun w _ => laidMetH Tryz.prog [("errors.errorType", Rows.laid_errors_errorType)] w) false (laidWorld os) #[sysV none 0 0 none 0 0 none 0 0 none 0 0, .int .i64 0, .int .i64 0] 8 rfl (by kernel_rfl) (by kernel_rfl) (by kernel_rfl) (by kernel_rfl) (by kernel_rfl) (laidWorld_met os _)) ?_
 intro W base args ds gs before hval0 hW _ _ hL _
 have hval : ∀ (j : Nat) t v, Tryz.f4.params[j]? = some t → args[j]? = some v → Value.okWide Tryz.prog W .any base t v := hval0
 have hW' := hW
 obtain ⟨p, q, hA0, hV, rfl, hfz, hnd⟩ := hW
 have hA : DataW.TrodAll enc Tryz.prog W 0 (fun _ => true) true Tryz.f4.params.toList args.toList ds p := hA0
 rw [Tryz.params4] at hA hval
 obtain ⟨v0, v1, v2, d0, d1, d2, p0, p1, p2, rfl, rfl, rfl, h0, h1, h2⟩ := trodAll_three hA
 obtain ⟨rfl, rfl⟩ := trodVars_none hV
 obtain ⟨z1, rfl⟩ := okWide_int Tryz.underlying3 (hval 1 3 v1 rfl rfl)
 obtain ⟨z2, rfl⟩ := okWide_int Tryz.underlying3 (hval 2 3 v2 rfl rfl)
 have lt0 : ∀ x ∈ p0, x.block < W.heap.size := by obtain ⟨m, hm⟩ := h0; exact DataW.trod_lt m _ _ _ hm
 have lt1 : ∀ x ∈ p1, x.block < W.heap.size := by obtain ⟨m, hm⟩ := h1; exact DataW.trod_lt m _ _ _ hm
 have lt2 : ∀ x ∈ p2, x.block < W.heap.size := by obtain ⟨m, hm⟩ := h2; exact DataW.trod_lt m _ _ _ hm
 have hg := handle_of_laid hL
 clear hA0 hval0
 have hlaw : Calls Tryz.prog 4 #[v0, .int .i64 z1, .int .i64 z2] W fun e w' => e = .returned (.bool true) ∧ Below W.heap.size W w' := by
  obtain ⟨x, e, hr, hm, hy⟩ := open_sys (hval 0 42 v0 rfl rfl) h0
  by_cases hs : x.size ≤ 1048576
  ·obtain ⟨y, ey, hok, hys⟩ := hy hs
   rw [ey]
   exact stepLaw_small y z1 z2 W hys hok hg
  ·rw [e]
   exact stepLaw_great x z1 z2 W hr hm (by omega)
 refine hlaw.mono fun e W' ⟨he, bel⟩ => ?_
 subst he
 exact ⟨_, rfl, _, _, _, [], _, [], hW', trodAll_mk1 (shut_bool Tryz.underlying4 _), (trodAll_cons_mk (Below.trod Tryz.laidOut (by kernel_rfl) (of_decide_eq_true (by kernel_rfl)) h0 bel lt0) (trodAll_cons_mk (Below.trod Tryz.laidOut (by kernel_rfl) (of_decide_eq_true (by kernel_rfl)) h1 bel lt1) (trodAll_cons_mk (Below.trod Tryz.laidOut (by kernel_rfl) (of_decide_eq_true (by kernel_rfl)) h2 bel lt2) trodAll_mk0))), rfl, bel.frame _, fun h => by cases h⟩
theorem stepSaid : Rows.FnExactStepSaid :=
 OpenClaim.holds_of_wide 4 Tryz.f4 rfl rfl rfl rfl rfl rfl rfl ⟨rfl, rfl, rfl, rfl, rfl⟩ rfl rfl rfl rfl rfl (by kernel_rfl) Tryz.func4 (by kernel_rfl)
  (of_decide_eq_true (by kernel_rfl)) (by unfold Func.isWrapper; first | (rw [if_pos (by decide +kernel)]; kernel_rfl) | (rw [if_neg (by decide +kernel)]; exact ⟨rfl, rfl⟩))
  (fun os started H enc _ => stepLifted os started H enc)
theorem stepPlain (f : FuncId) (fn : Func) (hf : Tryz.pinned.checked.prog.funcNamed "loop.example/g00196/laws.FnExactStep" = some f) (hfn : Tryz.pinned.checked.prog.funcs[f]? = some fn) :
  true = Tryz.pinned.checked.prog.looks [] ∧ ∀ (j : Nat) t, fn.params[j]? = some t → Tryz.pinned.checked.prog.wantsStandIn t = false := by
 obtain rfl : f = 4 := Option.some.inj ((show Tryz.prog.funcNamed "loop.example/g00196/laws.FnExactStep" = some 4 by kernel_rfl).symm.trans hf) |>.symm
 obtain rfl : fn = Tryz.f4 := (Option.some.inj (Tryz.func4.symm.trans hfn)).symm
 refine ⟨by kernel_rfl, fun j t ht => ?_⟩
 rw [Tryz.params4] at ht
 have hm := Array.mem_of_getElem? ht
 simp at hm
 rcases hm with rfl | rfl
 ·exact (show Tryz.prog.wantsStandIn 42 = false by kernel_rfl)
 ·exact (show Tryz.prog.wantsStandIn 3 = false by kernel_rfl)
theorem step_card : Rows.FnExactStepCardSaid :=
 Claim7.holds_tied_plain_at .later [] _ _ _ _ stepSaid (fun _ h => by cases h) (by kernel_rfl) (fun _ h => by cases h) fnExactStep_row_tie rfl ⟨rfl, rfl⟩ (by kernel_rfl) rfl stepPlain (by kernel_rfl)
end Go.Proofs.YtdigofhceahpdaaGreatDoor
