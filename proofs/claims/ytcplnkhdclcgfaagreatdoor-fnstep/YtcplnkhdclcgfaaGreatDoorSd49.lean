/- The walk of the program's Step. -/
import Derived.Test.YtcplnkhdclcgfaaGreatDoorSd0
import Derived.Test.YtcplnkhdclcgfaaGreatDoorSd47
import Derived.Deep.RegionLaw
import Derived.Deep.Cut
import Derived.Test.YtcplnkhdclcgfaaGreatDoorSd45
import Derived.Test.YtcplnkhdclcgfaaGreatDoorSd30
import Derived.Test.YtcplnkhdclcgfaaGreatDoorSd34
import Derived.Test.YtcplnkhdclcgfaaGreatDoorSd32
import Derived.Test.YtcplnkhdclcgfaaGreatDoorSd42
import Derived.Test.YtcplnkhdclcgfaaGreatDoorSd39
import Derived.Test.YtcplnkhdclcgfaaGreatDoorSd23
import Derived.Test.YtcplnkhdclcgfaaGreatDoorSd48
namespace Go.Proofs.YtcplnkhdclcgfaaGreatDoor
set_option maxRecDepth 100000
set_option maxHeartbeats 8000000
open Go.RowKit Go.Deep
structure DW (w wr : World) (W0 c : Nat) (a0 : Option Addr) (len cap N M B T : Nat) (x : SysIn) : Prop where
 cu : Cur wr W0 c a0 len cap
 be : Below w.heap.size w wr
 sx : SysX wr B T x
 b2 : Bx wr N (.slice none 0 0) (.slice none 0 0) (.slice none 0 0) (.slice none 0 0)
 b6 : Bx wr M (.slice x.pa x.pn x.pc) (.slice x.sa x.sn x.sc) (.slice x.wa x.wn x.wc) (.slice x.ha x.hn x.hc)
 sz : w.heap.size <= N /\ N < c /\ c < B /\ c < M /\ T <= M
theorem DW.draw {w wr w' : World} {W0 c len cap N M B T : Nat} {a0 : Option Addr} {x : SysIn} (h : DW w wr W0 c a0 len cap N M B T x) (hc : Cur w' W0 c a0 len cap) (hg : wr.grownBy w' (some c)) : DW w w' W0 c a0 len cap N M B T x :=
 ⟨hc, Below.grown h.be hg (by have := h.be.size; exact this) (fun k hk => by cases hk; have := h.sz; omega), h.sx.keep hg.size fun b hb _ hl => hg.block b hl (by have := h.sz; simp; omega), h.b2.grown hg (by have := h.sz; simp; omega), h.b6.grown hg (by have := h.sz; simp; omega), h.sz⟩
theorem DW.set4 {w wr : World} {W0 c len cap N M B T : Nat} {a0 : Option Addr} {x : SysIn} (h : DW w wr W0 c a0 len cap N M B T x) (u0 u1 u2 u3 : Value) : SysX ((((wr.setCell ⟨N, 0, none⟩ u0).setCell ⟨N, 1, none⟩ u1).setCell ⟨N, 2, none⟩ u2).setCell ⟨N, 3, none⟩ u3) B T x :=
 h.sx.keep (by simp) fun b hb _ _ => by
  have := h.sz
  rw [zO _ _ _ _ (by show b ≠ N; omega), zO _ _ _ _ (by show b ≠ N; omega), zO _ _ _ _ (by show b ≠ N; omega), zO _ _ _ _ (by show b ≠ N; omega)]
def DrwW (w : World) (e : Ending) (w' : World) : Prop := ∃ (x : SysIn) (a b : Int) (B T : Nat), e = .returned (.tuple #[x.v, .int .i64 a, .int .i64 b]) /\ x.y.Sm /\ SysX w' B T x /\ w.heap.size <= B /\ T <= w'.heap.size /\ Below w.heap.size w w' /\ (-1 <= a /\ a <= 4) /\ (-1 <= b /\ b <= 4)
structure DX (w wr : World) (W0 c : Nat) (a0 : Option Addr) (len cap B T : Nat) (x : SysIn) : Prop where
 cu : Cur wr W0 c a0 len cap
 sx : SysX wr B T x
 gr : w.grownBy wr (some c)
 lt : c < B
theorem DX.draw {w wr w' : World} {W0 c : Nat} {a0 : Option Addr} {len cap B T : Nat} {x : SysIn} (h : DX w wr W0 c a0 len cap B T x) (hc : Cur w' W0 c a0 len cap) (hg : wr.grownBy w' (some c)) : DX w w' W0 c a0 len cap B T x :=
 ⟨hc, h.sx.keep hg.size fun b hb _ hl => hg.block b hl (by have := h.lt; simp; omega), h.gr.trans hg, h.lt⟩
theorem DX.below {w wr w' : World} {W0 c : Nat} {a0 : Option Addr} {len cap B T : Nat} {x : SysIn} (h : DX w wr W0 c a0 len cap B T x) (hb : Below wr.heap.size wr w') : DX w w' W0 c a0 len cap B T x :=
 ⟨h.cu.kept (zZ hb) (by simp) (fun k hk => by cases hk), h.sx.keep hb.size fun b _ _ hl => hb.block b hl, h.gr.andThen (zZ hb) (fun j hj => by cases hj), h.lt⟩
theorem DX.alloc {w wr : World} {W0 c : Nat} {a0 : Option Addr} {len cap B T : Nat} {x : SysIn} (h : DX w wr W0 c a0 len cap B T x) (o : Obj) : DX w (wr.alloc o) W0 c a0 len cap B T x := h.below (zQ _ _)
theorem DX.set {w wr : World} {W0 c : Nat} {a0 : Option Addr} {len cap B T : Nat} {x : SysIn} (h : DX w wr W0 c a0 len cap B T x) {N : Nat} (hN : w.heap.size <= N) (hc : c ≠ N) (hT : N < B \/ T <= N) (hW : W0 <= N) (j : Nat) (u : Value) : DX w (wr.setCell ⟨N, j, none⟩ u) W0 c a0 len cap B T x := by
 have hg : wr.grownBy (wr.setCell ⟨N, j, none⟩ u) (some N) := zV (World.grownBy.refl _ _) (.inl rfl) u
 exact ⟨h.cu.kept hg (fun e => hc (by simpa using e)) (fun k hk => by cases hk; exact hW), h.sx.keep (by simp) fun b hb ht hl => hg.block b hl (by simp; omega), h.gr.andThen hg (fun k hk => by cases hk; exact .inl hN), h.lt⟩
theorem l6DrawPick_x (W0 c len cap B T : Nat) (a0 : Option Addr) (x : SysIn) (w : World) (hy : x.y.Sm) (hc : Cur w W0 c a0 len cap) (hX : SysX w B T x) (hT : T <= w.heap.size) (hB : c < B) :
  Calls Tryz.prog 38 #[.pointer (some ⟨c, 0, none⟩), x.v] w fun e w' => ∃ p q : Int, e = .returned (.agg #[.int .i64 p, .int .i64 q]) /\ DX w w' W0 c a0 len cap B T x := by
 have hcl : c < w.heap.size := hc.lt
 have hcg : W0 <= c := hc.ge
 have hpn : x.pn <= 16 := hy.n.1
 have hpn' : (x.pn : Int) <= 16 := by omega
 have HL : Hid x.Len := hy.inLen
 have HK : Hid ((∀ w', Abv c w w' -> SysG w' x) /\ ∀ i, i < x.hn -> x.hL i <= x.hC i) := ⟨fun w' h => hX.abv hB h, hX.cap⟩
 have K0 : Hid (DX w ((w.alloc (oQ4 x.pa x.pn x.pc x.sa x.sn x.sc x.wa x.wn x.wc x.ha x.hn x.hc)).alloc (.cells #[.int .i64 0, .int .i64 0] 65)) W0 c a0 len cap B T x /\ DP w ((w.alloc (oQ4 x.pa x.pn x.pc x.sa x.sn x.sc x.wa x.wn x.wc x.ha x.hn x.hc)).alloc (.cells #[.int .i64 0, .int .i64 0] 65)) x /\ Abv c w ((w.alloc (oQ4 x.pa x.pn x.pc x.sa x.sn x.sc x.wa x.wn x.wc x.ha x.hn x.hc)).alloc (.cells #[.int .i64 0, .int .i64 0] 65))) := by
  have k0 : DX w w W0 c a0 len cap B T x := ⟨hc, hX, World.grownBy.refl _ _, hB⟩
  refine ⟨(k0.alloc _).alloc _, ⟨(BoxC.new w _ _ _ _ _).below (zQ _ _), zW _ _ _ 0 (by simp), zW _ _ _ 1 (by simp), fun j => yB _ _ _ _ (by simp)⟩, (Abv.below (zQ _ _)).trans (Abv.below (zQ _ _))⟩
 clear hc hX hy
 go_enter Tryz.func38, Tryz.ntmps38
 go_upto_region 1 with fail
 generalize (w.alloc (oQ4 x.pa x.pn x.pc x.sa x.sn x.sc x.wa x.wn x.wc x.ha x.hn x.hc)).alloc (.cells #[.int .i64 0, .int .i64 0] 65) = W2 at *
 obtain ⟨b0, -, -, -⟩ := K0.out.2.1.bx
 go_wp2_with fail
 refine (l1Max_any _ _ _).mono ?_
 rintro e w1 ⟨n, rfl, ⟨n1, n2, n3⟩, rfl⟩
 clear b0
 have hn16 : n <= 16 := by omega
 go_wp2_with fail
 refine (zY W0 c len cap a0 n w1 K0.out.1.cu n2 (by omega)).mono ?_
 rintro e w2 ⟨p, rfl, ⟨p0, p1⟩, hc2, hg2⟩
 have K2 : Hid (DX w w2 W0 c a0 len cap B T x /\ DP w w2 x /\ Abv c w w2) := ⟨K0.out.1.draw hc2 hg2, K0.out.2.1.draw hg2 hcl, K0.out.2.2.trans (Abv.grown hg2)⟩
 clear hc2 hg2 K0
 obtain ⟨b0, b1, b2, b3⟩ := K2.out.2.1.bx
 go_wp2_with fail
 refine (specReady_any x p w2 (HK.out.1 w2 K2.out.2.2) HL.out HK.out.2).mono ?_
 rintro e w3 ⟨u3, rfl, o3, q3⟩
 obtain ⟨ra, rc, rfl, rsl⟩ := o3.form
 have hr4 := rdQ_four x.y p
 generalize rdQ x.y p = R at *
 have hr4' : (R.length : Int) <= 4 := by omega
 have K3 : Hid (DX w w3 W0 c a0 len cap B T x /\ DP w w3 x /\ OwnI w3 w2.heap.size (.slice ra R.length rc) R) := ⟨K2.out.1.below q3, K2.out.2.1.below q3, o3⟩
 have LT2 : Hid (w.heap.size + 1 < w2.heap.size) := K2.out.2.1.lt
 clear b0 b1 b2 b3 o3 q3 K2 rsl
 by_cases h0 : R.length = 0
 ·have h0' : ¬ (0 : Int) < (R.length : Int) := by omega
  go_wp2_with fail
  refine (zY W0 c len cap a0 (n + 1) w3 K3.out.1.cu (by omega) (by omega)).mono ?_
  rintro e w4 ⟨q, rfl, ⟨q0, q1⟩, hc4, hg4⟩
  have K4 : Hid (DX w w4 W0 c a0 len cap B T x /\ DP w w4 x) := ⟨K3.out.1.draw hc4 hg4, K3.out.2.1.draw hg4 hcl⟩
  clear hc4 hg4 K3
  obtain ⟨-, z0, z1, zf⟩ := K4.out.2
  go_wp2
  refine bodyPost_ret (v := .agg #[.int .i64 p, .int .i64 q]) (by simp [results, Tryz.results38, go_sem, z0, z1]) rfl ⟨p, q, rfl, ?_⟩
  exact (K4.out.1.set (by omega) (by omega) (by omega) (by omega) _ _).set (by omega) (by omega) (by omega) (by omega) _ _
 ·have h0' : (0 : Int) < (R.length : Int) := by omega
  go_wp2_with fail
  refine (l1Once_any W0 c len cap a0 9 w3 K3.out.1.cu (by omega) (by omega)).mono ?_
  rintro e w4 ⟨t, rfl, hc4, hg4⟩
  have K4 : Hid (DX w w4 W0 c a0 len cap B T x /\ DP w w4 x /\ OwnI w4 w2.heap.size (.slice ra R.length rc) R) := ⟨K3.out.1.draw hc4 hg4, K3.out.2.1.draw hg4 hcl, K3.out.2.2.ofBlock fun k hk => hg4.block k (K3.out.2.2.lt k hk).2 (by have := (K3.out.2.2.lt k hk).1; have := LT2.out; simp; omega)⟩
  clear hc4 hg4 K3
  rcases t with _ | _
  ·go_wp2_with fail
   refine (zY W0 c len cap a0 (R.length : Nat) w4 K4.out.1.cu (by omega) (by omega)).mono ?_
   rintro e w5 ⟨j, rfl, ⟨j0, j1⟩, hc5, hg5⟩
   have K5 : Hid (DX w w5 W0 c a0 len cap B T x /\ DP w w5 x /\ OwnI w5 w2.heap.size (.slice ra R.length rc) R) := ⟨K4.out.1.draw hc5 hg5, K4.out.2.1.draw hg5 hcl, K4.out.2.2.ofBlock fun k hk => hg5.block k (K4.out.2.2.lt k hk).2 (by have := (K4.out.2.2.lt k hk).1; have := LT2.out; simp; omega)⟩
   clear hc5 hg5 K4
   obtain ⟨i, rfl⟩ : ∃ i : Nat, j = i := ⟨j.toNat, by omega⟩
   obtain ⟨gb, go, rfl, -, gc⟩ := K5.out.2.2.slOf.at (k := i) (by omega)
   obtain ⟨-, z0, z1, zf⟩ := K5.out.2.1
   generalize zi R i = q at *
   go_wp2
   refine bodyPost_ret (v := .agg #[.int .i64 p, .int .i64 q]) (by simp [results, Tryz.results38, go_sem, z0, z1]) rfl ⟨p, q, rfl, ?_⟩
   exact (K5.out.1.set (by omega) (by omega) (by omega) (by omega) _ _).set (by omega) (by omega) (by omega) (by omega) _ _
  ·go_wp2_with fail
   refine (zY W0 c len cap a0 (n + 1) w4 K4.out.1.cu (by omega) (by omega)).mono ?_
   rintro e w5 ⟨q, rfl, ⟨q0, q1⟩, hc5, hg5⟩
   have K5 : Hid (DX w w5 W0 c a0 len cap B T x /\ DP w w5 x) := ⟨K4.out.1.draw hc5 hg5, K4.out.2.1.draw hg5 hcl⟩
   clear hc5 hg5 K4
   obtain ⟨-, z0, z1, zf⟩ := K5.out.2
   go_wp2
   refine bodyPost_ret (v := .agg #[.int .i64 p, .int .i64 q]) (by simp [results, Tryz.results38, go_sem, z0, z1]) rfl ⟨p, q, rfl, ?_⟩
   exact (K5.out.1.set (by omega) (by omega) (by omega) (by omega) _ _).set (by omega) (by omega) (by omega) (by omega) _ _
theorem sc4 {w : World} {N M : Nat} (u0 u1 u2 u3 : Value) (j : Nat) (h : ¬ M = N) : (((((w.setCell ⟨N, 0, none⟩ u0).setCell ⟨N, 1, none⟩ u1).setCell ⟨N, 2, none⟩ u2).setCell ⟨N, 3, none⟩ u3).drew).cell? ⟨M, j, none⟩ = w.cell? ⟨M, j, none⟩ := by
 refine zH ?_
 show ((((w.setCell ⟨N, 0, none⟩ u0).setCell ⟨N, 1, none⟩ u1).setCell ⟨N, 2, none⟩ u2).setCell ⟨N, 3, none⟩ u3).heap[M]? = w.heap[M]?
 rw [zO _ _ _ _ h, zO _ _ _ _ h, zO _ _ _ _ h, zO _ _ _ _ h]
theorem SysX.drew {w : World} {B T : Nat} {x : SysIn} (h : SysX w B T x) : SysX w.drew B T x := h.keep (Nat.le_refl _) fun _ _ _ _ => rfl
structure DV (w wr : World) (W0 c : Nat) (a0 : Option Addr) (len cap N M R B T : Nat) (x : SysIn) (p q : Int) : Prop where
 dw : DW w wr W0 c a0 len cap N M B T x
 p0 : wr.cell? ⟨R, 0, none⟩ = some (.int .i64 p)
 p1 : wr.cell? ⟨R, 1, none⟩ = some (.int .i64 q)
 fr : ∀ j, wr.frozen? ⟨R, j, none⟩ = false
 lt : M < R
theorem DV.draw {w wr w' : World} {W0 c len cap N M R B T : Nat} {a0 : Option Addr} {x : SysIn} {p q : Int} (h : DV w wr W0 c a0 len cap N M R B T x p q) (hc : Cur w' W0 c a0 len cap) (hg : wr.grownBy w' (some c)) : DV w w' W0 c a0 len cap N M R B T x p q := by
 have hR : R < wr.heap.size := zJ wr _ h.p0
 have hb := hg.block R hR (by have := h.dw.sz; have := h.lt; simp; omega)
 exact ⟨h.dw.draw hc hg, (zH hb).trans h.p0, (zH hb).trans h.p1, fun j => (zI hb).trans (h.fr j), h.lt⟩
theorem DV.alloc {w wr : World} {W0 c len cap N M R B T : Nat} {a0 : Option Addr} {x : SysIn} {p q : Int} (h : DV w wr W0 c a0 len cap N M R B T x p q) (o : Obj) : DV w (wr.alloc o) W0 c a0 len cap N M R B T x p q := h.draw (h.dw.cu.alloc o) (World.grownBy_alloc _ _ _)
theorem DV.put {w wr : World} {W0 c len cap N M R B T : Nat} {a0 : Option Addr} {x : SysIn} {p q : Int} (h : DV w wr W0 c a0 len cap N M R B T x p q) (r : Int) : DV w (wr.setCell ⟨R, 0, none⟩ (.int .i64 r)) W0 c a0 len cap N M R B T x r q := by
 have hs := h.dw.sz
 have hl := h.lt
 have hg : wr.grownBy (wr.setCell ⟨R, 0, none⟩ (.int .i64 r)) (some R) := zV (World.grownBy.refl _ _) (.inl rfl) _
 have hcl := h.dw.cu.ge
 have hR : R < wr.heap.size := zJ wr _ h.p0
 refine ⟨⟨h.dw.cu.kept hg (by simp; omega) (fun k hk => by cases hk; omega), Below.grown h.dw.be hg h.dw.be.size (fun k hk => by cases hk; omega), h.dw.sx.keep (by simp) fun b hb hbt hl => hg.block b hl (by simp; omega), h.dw.b2.grown hg (by simp; omega), h.dw.b6.grown hg (by simp; omega), hs⟩, ?_, ?_, ?_, hl⟩
 ·have := h.p0
  have := h.fr
  go_simp
 ·have := h.p1
  go_simp
 ·intro j
  have := h.fr
  go_simp
def DrwT (w : World) (e : Ending) (w' : World) : Prop := ∃ (x : SysIn) (p q : Int) (B T : Nat), e = .returned (.tuple #[x.v, .int .i64 p, .int .i64 q]) /\ x.y.Sm /\ SysX w' B T x /\ w.heap.size <= B /\ T <= w'.heap.size /\ Below w.heap.size w w'
theorem DrawStep_any (W0 len cap : Nat) (a0 : Option Addr) (w : World) (hB : BytesAt w W0 a0 len) (hW : W0 <= w.heap.size) (ln : len <= 1048576) :
  Calls Tryz.prog 10 #[.slice a0 len cap] w (DrwT w) := by
 have C0 : Hid (BytesAt (w.alloc (zQ4)) W0 a0 len /\ W0 <= (w.alloc (zQ4)).heap.size /\ Below w.heap.size w (w.alloc (zQ4)) /\ Bx (w.alloc (zQ4)) w.heap.size (.slice none 0 0) (.slice none 0 0) (.slice none 0 0) (.slice none 0 0) /\ (w.alloc (zQ4)).heap.size = w.heap.size + 1) := ⟨hB.kept (fun k hk => (zQ w (zQ4)).block k (by omega)), by simp; omega, zQ _ _, Bx.new w _ _ _ _ _, by simp⟩
 clear hB
 go_enter Tryz.func10, Tryz.ntmps10
 go_wp2_with fail
 generalize w.alloc (zQ4) = W2 at *
 refine (l1New_any W0 len cap a0 W2 C0.out.1 C0.out.2.1 ln).mono ?_
 rintro e w1 ⟨rfl, hc1, hg1⟩
 have C1 : Hid (Cur w1 W0 W2.heap.size a0 len cap /\ Below w.heap.size w w1 /\ Bx w1 w.heap.size (.slice none 0 0) (.slice none 0 0) (.slice none 0 0) (.slice none 0 0) /\ W2.heap.size = w.heap.size + 1 /\ W2.heap.size < w1.heap.size) := ⟨hc1, C0.out.2.2.1.trans ((below_of_grown hg1).mono C0.out.2.2.1.size), C0.out.2.2.2.1.below (below_of_grown hg1), C0.out.2.2.2.2, hc1.lt⟩
 clear hc1 hg1 C0
 generalize W2.heap.size = c at *
 go_wp2_with fail
 refine (l6Draw_any W0 c len cap a0 w1 C1.out.1).mono ?_
 rintro e w2 ⟨x, B, T, rfl, hm, hX, hc2, hg2, hcB, hT⟩
 have DA : Hid (DW w (w2.alloc (oQ4 x.pa x.pn x.pc x.sa x.sn x.sc x.wa x.wn x.wc x.ha x.hn x.hc)) W0 c a0 len cap w.heap.size w2.heap.size B T x) := by
  have hs := hg2.size
  have h1 := C1.out.2.2.2.1
  have h2 := C1.out.2.2.2.2
  refine ⟨hc2.alloc _, (Below.grown C1.out.2.1 hg2 C1.out.2.1.size (fun k hk => by cases hk; omega)).trans ((zQ _ _).mono (by have := C1.out.2.1.size; omega)), hX.keep (by simp) fun b _ _ hl => (zQ w2 _).block b hl, (C1.out.2.2.1.grown hg2 (by simp; omega)).below (zQ _ _), Bx.new _ _ _ _ _ _, Nat.le_refl _, by omega, hcB, by omega, hT⟩
 have HM : Hid x.y.Sm := hm
 clear hX hc2 hg2 hcB hT C1 hm
 go_wp2_with fail
 generalize w2.alloc (oQ4 x.pa x.pn x.pc x.sa x.sn x.sc x.wa x.wn x.wc x.ha x.hn x.hc) = wA at *
 have hTM : Hid (T <= wA.heap.size) := by
  show T <= wA.heap.size
  have := DA.out.sz
  have := DA.out.b6.lt
  omega
 generalize w2.heap.size = M at *
 obtain ⟨z0, z1, z2, z3⟩ := DA.out.b6.bx
 go_wp2_with fail
 clear z0 z1 z2 z3
 refine (l6DrawPick_x W0 c len cap B T a0 x wA HM.out DA.out.cu DA.out.sx hTM.out DA.out.sz.2.2.1).mono ?_
 rintro e w3 ⟨p, q, rfl, d3⟩
 have D3 : Hid (DV w (w3.alloc (.cells #[.int .i64 p, .int .i64 q] 65)) W0 c a0 len cap w.heap.size M w3.heap.size B T x p q) := by
  have hs := DA.out.sz
  have hM := DA.out.b6.lt
  have hz := d3.gr.size
  refine ⟨⟨d3.cu.alloc _, (Below.grown DA.out.be d3.gr DA.out.be.size (fun k hk => by cases hk; omega)).trans ((zQ _ _).mono (by have := DA.out.be.size; omega)), d3.sx.keep (by simp) fun b _ _ hl => (zQ w3 _).block b hl, (DA.out.b2.grown d3.gr (by simp; omega)).below (zQ _ _), (DA.out.b6.grown d3.gr (by simp; omega)).below (zQ _ _), hs⟩, zW _ _ _ 0 (by simp), zW _ _ _ 1 (by simp), fun j => yB _ _ _ _ (by simp), by omega⟩
 clear d3 DA hTM
 go_wp2_with fail
 generalize w3.alloc (.cells #[.int .i64 p, .int .i64 q] 65) = wB at *
 generalize w3.heap.size = R at *
 refine (l1Once_any W0 c len cap a0 15 wB D3.out.dw.cu (by omega) (by omega)).mono ?_
 rintro e w4 ⟨t, rfl, hc4, hg4⟩
 have D4 : Hid (DV w w4 W0 c a0 len cap w.heap.size M R B T x p q) := D3.out.draw hc4 hg4
 clear hc4 hg4 D3
 rcases t with _ | _
 ·go_upto_region 6 with fail
  obtain ⟨⟨z0, z1, z2, z3⟩, -⟩ := D4.out.dw.b6
  have hp0 := D4.out.p0
  have hp1 := D4.out.p1
  refine wp_region_G (fun w' => w'.cell? ⟨M, 0, none⟩ = some (.slice x.pa x.pn x.pc) /\ w'.cell? ⟨M, 1, none⟩ = some (.slice x.sa x.sn x.sc) /\ w'.cell? ⟨M, 2, none⟩ = some (.slice x.wa x.wn x.wc) /\ w'.cell? ⟨M, 3, none⟩ = some (.slice x.ha x.hn x.hc) /\ w'.cell? ⟨R, 0, none⟩ = some (.int .i64 p) /\ w'.cell? ⟨R, 1, none⟩ = some (.int .i64 q)) (fun _ => false) (by kernel_rfl) ?_
  have hHeld : (fun w' : World => w'.cell? ⟨M, 0, none⟩ = some (.slice x.pa x.pn x.pc) /\ w'.cell? ⟨M, 1, none⟩ = some (.slice x.sa x.sn x.sc) /\ w'.cell? ⟨M, 2, none⟩ = some (.slice x.wa x.wn x.wc) /\ w'.cell? ⟨M, 3, none⟩ = some (.slice x.ha x.hn x.hc) /\ w'.cell? ⟨R, 0, none⟩ = some (.int .i64 p) /\ w'.cell? ⟨R, 1, none⟩ = some (.int .i64 q)) w4.drew := ⟨z0, z1, z2, z3, hp0, hp1⟩
  refine wpGT_of [0, 1, 2, 3, 4] ?_
  iterate 5 (refine wpGT_take rfl hHeld ?_; apply Exists.intro; refine ⟨fun wq hSw => ?_, ?_⟩; (· ((try dsimp only at hSw); go_simp; try with_reducible rfl)); (try simp only [Act.put, zD, zE, zF]))
  refine wpGT_nil ?_
  refine wpG_one 5 rfl (by kernel_rfl) (fun K hK => ?_)
  have F5 := D4.out.dw.b2.fr
  obtain ⟨x0, x1, x2, x3⟩ := D4.out.dw.b2.bx
  go_simp
  have nR : ¬ R = w.heap.size := by have := D4.out.dw.sz; have := D4.out.lt; omega
  have nM : ¬ M = w.heap.size := by have := D4.out.dw.sz; omega
  have nR' : ¬ w.heap.size = R := fun e => nR e.symm
  have nM' : ¬ w.heap.size = M := fun e => nM e.symm
  refine hK.out _ _ (fun _ => ⟨(sc4 _ _ _ _ _ nM).trans z0, (sc4 _ _ _ _ _ nM).trans z1, (sc4 _ _ _ _ _ nM).trans z2, (sc4 _ _ _ _ _ nM).trans z3, (sc4 _ _ _ _ _ nR).trans hp0, (sc4 _ _ _ _ _ nR).trans hp1⟩) ?_
  clear hK K
  (try simp only [Act.put, zD, zE, zF])
  refine wpG_takeW 6 rfl (by kernel_rfl) (by kernel_rfl) (by kernel_rfl) (fun _ _ _ _ h => h) rfl ?_
  apply Exists.intro
  refine ⟨fun wq => ?_, ?_⟩
  ·go_simp
   try with_reducible rfl
  (try simp only [Act.put, zD, zE, zF])
  refine wpG_takeW 7 rfl (by kernel_rfl) (by kernel_rfl) (by kernel_rfl) (fun _ _ _ _ h => h) rfl ?_
  apply Exists.intro
  refine ⟨fun wq => ?_, ?_⟩
  ·go_simp
   try with_reducible rfl
  (try simp only [Act.put, zD, zE, zF])
  refine wpG_done (by kernel_rfl) ?_ _
  go_wp2
  refine bodyPost_ret (v := .tuple #[x.v, .int .i64 p, .int .i64 q]) (by simp [results, Tryz.results10, go_sem, x0, x1, x2, x3]) rfl ⟨x, p, q, B, T, rfl, HM.out, ?_, ?_, ?_, ?_⟩
  ·exact (D4.out.dw.set4 _ _ _ _).drew
  ·have := D4.out.dw.sz
   omega
  ·have := D4.out.dw.sz
   have := D4.out.dw.b6.lt
   simp
   omega
  ·exact ((((D4.out.dw.be.setCell (Nat.le_refl _) _).setCell (Nat.le_refl _) _).setCell (Nat.le_refl _) _).setCell (Nat.le_refl _) _).drew
 ·have D5 : Hid (DV w (w4.alloc (.cells #[.int .i64 (-1), .int .i64 4] 3)) W0 c a0 len cap w.heap.size M R B T x p q) := D4.out.alloc _
  have I5 : Hid (IntsAt (w4.alloc (.cells #[.int .i64 (-1), .int .i64 4] 3)) w4.heap.size 2 (fun k => if k = 0 then -1 else 4)) := by
   intro j hj
   match j, hj with
   | 0, _ => exact zW _ _ _ 0 (by simp)
   | 1, _ => exact zW _ _ _ 1 (by simp)
  have nc : Hid (w4.heap.size ≠ c) := by
   show w4.heap.size ≠ c
   have := D4.out.dw.cu.lt
   omega
  go_wp2_with fail
  refine (l1PickInt_any W0 c len cap w4.heap.size 2 2 a0 _ (w4.alloc (.cells #[.int .i64 (-1), .int .i64 4] 3)) D5.out.dw.cu (by omega) (by omega) (by simp) nc.out I5.out).mono ?_
  rintro e w6 ⟨r, rfl, hc6, hg6⟩
  have D6 : Hid (DV w w6 W0 c a0 len cap w.heap.size M R B T x p q) := D5.out.draw hc6 hg6
  clear hc6 hg6 D5 I5 nc D4
  have fR := D6.out.fr
  have hp0 := D6.out.p0
  go_upto_region 6 with fail
  have D7 : Hid (DV w (w6.setCell ⟨R, 0, none⟩ (.int .i64 r)) W0 c a0 len cap w.heap.size M R B T x r q) := D6.out.put r
  clear D6 fR hp0
  generalize w6.setCell ⟨R, 0, none⟩ (.int .i64 r) = w7 at *
  obtain ⟨⟨z0, z1, z2, z3⟩, -⟩ := D7.out.dw.b6
  have hp0 := D7.out.p0
  have hp1 := D7.out.p1
  refine wp_region_G (fun w' => w'.cell? ⟨M, 0, none⟩ = some (.slice x.pa x.pn x.pc) /\ w'.cell? ⟨M, 1, none⟩ = some (.slice x.sa x.sn x.sc) /\ w'.cell? ⟨M, 2, none⟩ = some (.slice x.wa x.wn x.wc) /\ w'.cell? ⟨M, 3, none⟩ = some (.slice x.ha x.hn x.hc) /\ w'.cell? ⟨R, 0, none⟩ = some (.int .i64 r) /\ w'.cell? ⟨R, 1, none⟩ = some (.int .i64 q)) (fun _ => false) (by kernel_rfl) ?_
  have hHeld : (fun w' : World => w'.cell? ⟨M, 0, none⟩ = some (.slice x.pa x.pn x.pc) /\ w'.cell? ⟨M, 1, none⟩ = some (.slice x.sa x.sn x.sc) /\ w'.cell? ⟨M, 2, none⟩ = some (.slice x.wa x.wn x.wc) /\ w'.cell? ⟨M, 3, none⟩ = some (.slice x.ha x.hn x.hc) /\ w'.cell? ⟨R, 0, none⟩ = some (.int .i64 r) /\ w'.cell? ⟨R, 1, none⟩ = some (.int .i64 q)) w7.drew := ⟨z0, z1, z2, z3, hp0, hp1⟩
  refine wpGT_of [0, 1, 2, 3, 4] ?_
  iterate 5 (refine wpGT_take rfl hHeld ?_; apply Exists.intro; refine ⟨fun wq hSw => ?_, ?_⟩; (· ((try dsimp only at hSw); go_simp; try with_reducible rfl)); (try simp only [Act.put, zD, zE, zF]))
  refine wpGT_nil ?_
  refine wpG_one 5 rfl (by kernel_rfl) (fun K hK => ?_)
  have F5 := D7.out.dw.b2.fr
  obtain ⟨x0, x1, x2, x3⟩ := D7.out.dw.b2.bx
  go_simp
  have nR : ¬ R = w.heap.size := by have := D7.out.dw.sz; have := D7.out.lt; omega
  have nM : ¬ M = w.heap.size := by have := D7.out.dw.sz; omega
  have nR' : ¬ w.heap.size = R := fun e => nR e.symm
  have nM' : ¬ w.heap.size = M := fun e => nM e.symm
  refine hK.out _ _ (fun _ => ⟨(sc4 _ _ _ _ _ nM).trans z0, (sc4 _ _ _ _ _ nM).trans z1, (sc4 _ _ _ _ _ nM).trans z2, (sc4 _ _ _ _ _ nM).trans z3, (sc4 _ _ _ _ _ nR).trans hp0, (sc4 _ _ _ _ _ nR).trans hp1⟩) ?_
  clear hK K
  (try simp only [Act.put, zD, zE, zF])
  refine wpG_takeW 6 rfl (by kernel_rfl) (by kernel_rfl) (by kernel_rfl) (fun _ _ _ _ h => h) rfl ?_
  apply Exists.intro
  refine ⟨fun wq => ?_, ?_⟩
  ·go_simp
   try with_reducible rfl
  (try simp only [Act.put, zD, zE, zF])
  refine wpG_takeW 7 rfl (by kernel_rfl) (by kernel_rfl) (by kernel_rfl) (fun _ _ _ _ h => h) rfl ?_
  apply Exists.intro
  refine ⟨fun wq => ?_, ?_⟩
  ·go_simp
   try with_reducible rfl
  (try simp only [Act.put, zD, zE, zF])
  refine wpG_done (by kernel_rfl) ?_ _
  go_wp2
  refine bodyPost_ret (v := .tuple #[x.v, .int .i64 r, .int .i64 q]) (by simp [results, Tryz.results10, go_sem, x0, x1, x2, x3]) rfl ⟨x, r, q, B, T, rfl, HM.out, ?_, ?_, ?_, ?_⟩
  ·exact (D7.out.dw.set4 _ _ _ _).drew
  ·have := D7.out.dw.sz
   omega
  ·have := D7.out.dw.sz
   have := D7.out.dw.b6.lt
   simp
   omega
  ·exact ((((D7.out.dw.be.setCell (Nat.le_refl _) _).setCell (Nat.le_refl _) _).setCell (Nat.le_refl _) _).setCell (Nat.le_refl _) _).drew
open Go.ChangeShapes Go.WideShapes Go.ChangeAt
theorem sameEvents_same (a0 a1 : Option Addr) (n c0 c1 : Nat) (h : Nat -> E3) (w : World) (hlen : n <= 1048576) (h0 : EvL w a0 n h) (h1 : EvL w a1 n h) :
  Calls Tryz.prog 47 #[.slice a0 n c0, .slice a1 n c1] w fun e w' => e = .returned (.bool true) /\ Below w.heap.size w w' := by
 have hl' : (n : Int) <= 1048576 := by omega
 have H0 : Hid (EvL w a0 n h) := h0
 have H1 : Hid (EvL w a1 n h) := h1
 clear h0 h1
 go_enter Tryz.func47, Tryz.ntmps47
 go_wp2_with fail
 go_loopw [5] (fun i wr => ∃ k : Nat, k <= n /\ i = .int .i64 k /\ Below w.heap.size w wr) (fun i _ => n - (intOf i).toNat)
 case atStart => exact ⟨0, Nat.zero_le _, rfl, Below.refl _ _⟩
 case round =>
  obtain ⟨k, hk, rfl, hbw⟩ := hrel
  by_cases hlt : k < n
  ·obtain ⟨b, off, rfl, hbl, ck0, ck1, ck2⟩ := (H0.out.below hbw).at hlt
   obtain ⟨b', off', rfl, hbl', ck0', ck1', ck2'⟩ := (H1.out.below hbw).at hlt
   have hlt' : (k : Int) < (n : Int) := by omega
   go_wp2_with fail
   go_quiet (fail)
   go_wp2
   go_roundw
   case rel => exact ⟨k + 1, by omega, by go_num, yC hbw _⟩
   case measure => simp [intOf]; omega
  ·go_wp2
   go_ret
   exact ⟨rfl, hbw⟩
structure Tw (w : World) (N : Nat) (x x' : SysIn) : Prop where
 g : SysG w x
 g' : SysG w x'
 b : BoxC w N (.slice x.pa x.pn x.pc) (.slice x.sa x.sn x.sc) (.slice x.wa x.wn x.wc) (.slice x.ha x.hn x.hc)
 b' : BoxC w (N + 1) (.slice x'.pa x'.pn x'.pc) (.slice x'.sa x'.sn x'.sc) (.slice x'.wa x'.wn x'.wc) (.slice x'.ha x'.hn x'.hc)
theorem Tw.below {w w' : World} {N : Nat} {x x' : SysIn} (h : Tw w N x x') (hb : Below w.heap.size w w') : Tw w' N x x' := ⟨h.g.below hb, h.g'.below hb, h.b.below hb, h.b'.below hb⟩
theorem Tw.new (w : World) (x x' : SysIn) (hG : SysG w x) (hG' : SysG w x') : Tw ((w.alloc (oQ4 x.pa x.pn x.pc x.sa x.sn x.sc x.wa x.wn x.wc x.ha x.hn x.hc)).alloc (oQ4 x'.pa x'.pn x'.pc x'.sa x'.sn x'.sc x'.wa x'.wn x'.wc x'.ha x'.hn x'.hc)) w.heap.size x x' := by
 have hb : Below w.heap.size w ((w.alloc (oQ4 x.pa x.pn x.pc x.sa x.sn x.sc x.wa x.wn x.wc x.ha x.hn x.hc)).alloc (oQ4 x'.pa x'.pn x'.pc x'.sa x'.sn x'.sc x'.wa x'.wn x'.wc x'.ha x'.hn x'.hc)) := (zQ _ _).trans ((zQ _ _).mono (by simp))
 refine ⟨hG.below hb, hG'.below hb, (BoxC.new w _ _ _ _ _).below (zQ _ _), ?_⟩
 have h := BoxC.new (w.alloc (oQ4 x.pa x.pn x.pc x.sa x.sn x.sc x.wa x.wn x.wc x.ha x.hn x.hc)) (.slice x'.pa x'.pn x'.pc) (.slice x'.sa x'.sn x'.sc) (.slice x'.wa x'.wn x'.wc) (.slice x'.ha x'.hn x'.hc) 29
 rw [World.size_alloc] at h
 exact h
theorem sameHist_same (x x' : SysIn) (w : World) (hy : x'.y = x.y) (hG : SysG w x) (hG' : SysG w x') (hL : x.Len) :
  Calls Tryz.prog 13 #[x.v, x'.v] w fun e w' => e = .returned (.bool true) /\ Below w.heap.size w w' := by
 have hn : x'.hn = x.hn := congrArg (fun y : Sy => y.hn) hy
 have hl' : (x.hn : Int) <= 1048576 := by have := hL.h.1; omega
 have T0 : Hid (Tw ((w.alloc (oQ4 x.pa x.pn x.pc x.sa x.sn x.sc x.wa x.wn x.wc x.ha x.hn x.hc)).alloc (oQ4 x'.pa x'.pn x'.pc x'.sa x'.sn x'.sc x'.wa x'.wn x'.wc x'.ha x'.hn x'.hc)) w.heap.size x x') := Tw.new w x x' hG hG'
 have B0 : Hid (Below w.heap.size w ((w.alloc (oQ4 x.pa x.pn x.pc x.sa x.sn x.sc x.wa x.wn x.wc x.ha x.hn x.hc)).alloc (oQ4 x'.pa x'.pn x'.pc x'.sa x'.sn x'.sc x'.wa x'.wn x'.wc x'.ha x'.hn x'.hc))) := (zQ _ _).trans ((zQ _ _).mono (by simp))
 have HY : Hid (x'.y = x.y /\ x.Len) := ⟨hy, hL⟩
 have HQ : Hid (x'.hn = x.hn) := hn
 clear hG hG' hL hy hn
 go_enter Tryz.func13, Tryz.ntmps13
 go_upto_region 1 with fail
 generalize (w.alloc (oQ4 x.pa x.pn x.pc x.sa x.sn x.sc x.wa x.wn x.wc x.ha x.hn x.hc)).alloc (oQ4 x'.pa x'.pn x'.pc x'.sa x'.sn x'.sc x'.wa x'.wn x'.wc x'.ha x'.hn x'.hc) = W2 at *
 generalize hNN : w.heap.size = N at *
 have HNN : Hid (w.heap.size = N) := hNN
 clear hNN
 obtain ⟨x0, x1, x2, x3⟩ := T0.out.b
 obtain ⟨y0, y1, y2, y3⟩ := T0.out.b'
 rw [HQ.out] at y3
 go_wp2_with fail
 clear x0 x1 x2 x3 y0 y1 y2 y3
 go_loopw [5] (fun i wr => ∃ k : Nat, k <= x.hn /\ i = .int .i64 k /\ Hid (Tw wr N x x' /\ Below N w wr)) (fun i _ => x.hn - (intOf i).toNat)
 case atStart => exact ⟨0, Nat.zero_le _, rfl, T0.out, B0.out⟩
 case round =>
  obtain ⟨k, hk, rfl, HT⟩ := hrel
  obtain ⟨x0, x1, x2, x3⟩ := HT.out.1.b
  obtain ⟨y0, y1, y2, y3⟩ := HT.out.1.b'
  rw [HQ.out] at y3
  have lN : N < wr.heap.size := zJ wr _ x0
  have lM : N + 1 < wr.heap.size := zJ wr _ y0
  by_cases hlt : k < x.hn
  ·have hlt' : (k : Int) < (x.hn : Int) := by omega
   have nlt : ¬ (x.hn : Int) <= (k : Int) := by omega
   have eL : x'.hL k = x.hL k := congrFun (congrArg (fun y : Sy => y.hL) HY.out.1) k
   have eH : x'.hH k = x.hH k := congrFun (congrArg (fun y : Sy => y.hH) HY.out.1) k
   obtain ⟨b, off, ea, ck⟩ := HT.out.1.g.h.at hlt
   obtain ⟨b', off', ea', ck'⟩ := HT.out.1.g'.h.at (show k < x'.hn by rw [HQ.out]; exact hlt)
   rw [eL] at ck'
   have E : Hid (EvL wr (x.hA k) (x.hL k) (x.hH k) /\ EvL wr (x'.hA k) (x.hL k) (x.hH k) /\ x.hL k <= 1048576) := ⟨HT.out.1.g.hi k hlt, by have := HT.out.1.g'.hi k (show k < x'.hn by rw [HQ.out]; exact hlt); rw [eL, eH] at this; exact this, HY.out.2.h.2 k hlt⟩
   rw [ea] at x3
   rw [ea'] at y3
   clear ea ea' eL eH
   have lb : b < wr.heap.size := zJ wr _ ck
   have lb' : b' < wr.heap.size := zJ wr _ ck'
   go_upto_region 6 with fail
   have q0 : Below wr.heap.size wr wr.drew := (Below.refl wr.heap.size wr).drew
   refine wp_region_G (fun w' => w'.cell? ⟨N, 3, none⟩ = some (.slice (some ⟨b, off, none⟩) x.hn x.hc) /\ w'.cell? ⟨N + 1, 3, none⟩ = some (.slice (some ⟨b', off', none⟩) x.hn x'.hc) /\ w'.cell? ⟨b, off + k, none⟩ = some (.slice (x.hA k) (x.hL k) (x.hC k)) /\ w'.cell? ⟨b', off' + k, none⟩ = some (.slice (x'.hA k) (x.hL k) (x'.hC k))) (fun _ => false) (by kernel_rfl) ?_
   have hHeld : (fun w' : World => w'.cell? ⟨N, 3, none⟩ = some (.slice (some ⟨b, off, none⟩) x.hn x.hc) /\ w'.cell? ⟨N + 1, 3, none⟩ = some (.slice (some ⟨b', off', none⟩) x.hn x'.hc) /\ w'.cell? ⟨b, off + k, none⟩ = some (.slice (x.hA k) (x.hL k) (x.hC k)) /\ w'.cell? ⟨b', off' + k, none⟩ = some (.slice (x'.hA k) (x.hL k) (x'.hC k))) wr.drew := ⟨(q0.cell (p := ⟨N, 3, none⟩) lN).trans x3, (q0.cell (p := ⟨N + 1, 3, none⟩) lM).trans y3, (q0.cell (p := ⟨b, _, none⟩) lb).trans ck, (q0.cell (p := ⟨b', _, none⟩) lb').trans ck'⟩
   refine wpGT_of [0, 1, 2, 3, 4, 5, 6, 7, 8, 9] ?_
   iterate 10 (refine wpGT_take rfl hHeld ?_; apply Exists.intro; refine ⟨fun wq hSw => ?_, ?_⟩; (· ((try dsimp only at hSw); go_simp; try with_reducible rfl)); (try simp only [Act.put, zD, zE, zF]))
   refine wpGT_nil ?_
   refine wpG_one 10 rfl (by kernel_rfl) (fun K hK => ?_)
   refine stepR_call rfl 47 _ _ rfl #[.slice (x.hA k) (x.hL k) (x.hC k), .slice (x'.hA k) (x.hL k) (x'.hC k)] (by simp [Act.eval]) (yA Tryz.func47 (by kernel_rfl) rfl) (sameEvents_same (x.hA k) (x'.hA k) (x.hL k) (x.hC k) (x'.hC k) (x.hH k) wr.drew E.out.2.2 (E.out.1.below q0) (E.out.2.1.below q0)) ?_
   rintro e w5 ⟨rfl, d5⟩
   refine ⟨_, rfl, ?_⟩
   have q5 : Below wr.heap.size wr w5 := q0.trans d5
   have hHeld5 : (fun w' : World => w'.cell? ⟨N, 3, none⟩ = some (.slice (some ⟨b, off, none⟩) x.hn x.hc) /\ w'.cell? ⟨N + 1, 3, none⟩ = some (.slice (some ⟨b', off', none⟩) x.hn x'.hc) /\ w'.cell? ⟨b, off + k, none⟩ = some (.slice (x.hA k) (x.hL k) (x.hC k)) /\ w'.cell? ⟨b', off' + k, none⟩ = some (.slice (x'.hA k) (x.hL k) (x'.hC k))) w5 := ⟨(q5.cell (p := ⟨N, 3, none⟩) lN).trans x3, (q5.cell (p := ⟨N + 1, 3, none⟩) lM).trans y3, (q5.cell (p := ⟨b, _, none⟩) lb).trans ck, (q5.cell (p := ⟨b', _, none⟩) lb').trans ck'⟩
   refine hK.out _ _ (fun _ => hHeld5) ?_
   clear hHeld
   have hHeld := hHeld5
   clear hHeld5 d5 hK K
   (try simp only [Act.put, zD, zE, zF])
   refine wpG_take 11 rfl hHeld ?_
   apply Exists.intro
   refine ⟨fun wq hSw => ?_, ?_⟩
   ·(try dsimp only at hSw)
    go_simp
    try with_reducible rfl
   (try simp only [Act.put, zD, zE, zF])
   refine wpG_done (by kernel_rfl) ?_ _
   have K5 : Hid (Tw w5 N x x' /\ Below N w w5) := ⟨HT.out.1.below q5, HT.out.2.trans (q5.mono (Nat.le_of_lt lN))⟩
   clear hHeld q5 q0 HT
   go_wp2
   go_roundw
   case rel => exact ⟨k + 1, by omega, by go_num, K5.out⟩
   case measure => simp [intOf]; omega
  ·go_wp2
   go_ret
   exact ⟨rfl, by rw [HNN.out]; exact HT.out.2⟩
theorem sameStates_same (x x' : SysIn) (w : World) (hy : x'.y = x.y) (hG : SysG w x) (hG' : SysG w x') (hL : x.Len) :
  Calls Tryz.prog 14 #[x.v, x'.v] w fun e w' => e = .returned (.bool true) /\ Below w.heap.size w w' := by
 have hn : x'.sn = x.sn := congrArg (fun y : Sy => y.sn) hy
 have hl' : (x.sn : Int) <= 1048576 := by have := hL.s.1; omega
 have T0 : Hid (Tw ((w.alloc (oQ4 x.pa x.pn x.pc x.sa x.sn x.sc x.wa x.wn x.wc x.ha x.hn x.hc)).alloc (oQ4 x'.pa x'.pn x'.pc x'.sa x'.sn x'.sc x'.wa x'.wn x'.wc x'.ha x'.hn x'.hc)) w.heap.size x x') := Tw.new w x x' hG hG'
 have B0 : Hid (Below w.heap.size w ((w.alloc (oQ4 x.pa x.pn x.pc x.sa x.sn x.sc x.wa x.wn x.wc x.ha x.hn x.hc)).alloc (oQ4 x'.pa x'.pn x'.pc x'.sa x'.sn x'.sc x'.wa x'.wn x'.wc x'.ha x'.hn x'.hc))) := (zQ _ _).trans ((zQ _ _).mono (by simp))
 have HY : Hid (x'.y = x.y /\ x.Len) := ⟨hy, hL⟩
 have HQ : Hid (x'.sn = x.sn) := hn
 clear hG hG' hL hy hn
 go_enter Tryz.func14, Tryz.ntmps14
 go_upto_region 1 with fail
 generalize (w.alloc (oQ4 x.pa x.pn x.pc x.sa x.sn x.sc x.wa x.wn x.wc x.ha x.hn x.hc)).alloc (oQ4 x'.pa x'.pn x'.pc x'.sa x'.sn x'.sc x'.wa x'.wn x'.wc x'.ha x'.hn x'.hc) = W2 at *
 generalize hNN : w.heap.size = N at *
 have HNN : Hid (w.heap.size = N) := hNN
 clear hNN
 obtain ⟨x0, x1, x2, x3⟩ := T0.out.b
 obtain ⟨y0, y1, y2, y3⟩ := T0.out.b'
 rw [HQ.out] at y1
 go_wp2_with fail
 clear x0 x1 x2 x3 y0 y1 y2 y3
 go_loopw [5] (fun i wr => ∃ k : Nat, k <= x.sn /\ i = .int .i64 k /\ Hid (Tw wr N x x' /\ Below N w wr)) (fun i _ => x.sn - (intOf i).toNat)
 case atStart => exact ⟨0, Nat.zero_le _, rfl, T0.out, B0.out⟩
 case round =>
  obtain ⟨k, hk, rfl, HT⟩ := hrel
  obtain ⟨x0, x1, x2, x3⟩ := HT.out.1.b
  obtain ⟨y0, y1, y2, y3⟩ := HT.out.1.b'
  rw [HQ.out] at y1
  have lN : N < wr.heap.size := zJ wr _ x0
  have lM : N + 1 < wr.heap.size := zJ wr _ y0
  by_cases hlt : k < x.sn
  ·have hlt' : (k : Int) < (x.sn : Int) := by omega
   have nlt : ¬ (x.sn : Int) <= (k : Int) := by omega
   have eS : x'.sS k = x.sS k := congrFun (congrArg (fun y : Sy => y.sS) HY.out.1) k
   obtain ⟨b, off, ea, lb, ck⟩ := HT.out.1.g.s.row.resolve_left (by omega)
   obtain ⟨b', off', ea', lb', ck'⟩ := HT.out.1.g'.s.row.resolve_left (by have := HQ.out; omega)
   have ck := ck k hlt
   have ck' := ck' k (by have := HQ.out; omega)
   have E0 := HT.out.1.g.s.lst k hlt
   have E1 := HT.out.1.g'.s.lst k (by have := HQ.out; omega)
   have hb := HY.out.2.s.2 k hlt
   obtain ⟨e1, e2, e3, e4⟩ : (x'.sQ k).p = (x.sQ k).p /\ (x'.sQ k).rs = (x.sQ k).rs /\ (x'.sQ k).os = (x.sQ k).os /\ (x'.sQ k).c = (x.sQ k).c := ⟨congrArg S4.p eS, congrArg S4.rs eS, congrArg S4.os eS, congrArg S4.c eS⟩
   rw [e1, e2, e3, e4] at ck'
   rw [e2, e3] at E1
   generalize (x.sQ k).p = p at *
   generalize (x.sQ k).c = cd at *
   generalize (x.sQ k).rs = rs at *
   generalize (x.sQ k).os = os at *
   generalize (x.sQ k).ra = ra at *
   generalize (x.sQ k).rc = rc at *
   generalize (x.sQ k).oa = oa at *
   generalize (x.sQ k).oc = oc at *
   generalize (x'.sQ k).ra = ra' at *
   generalize (x'.sQ k).rc = rc' at *
   generalize (x'.sQ k).oa = oa' at *
   generalize (x'.sQ k).oc = oc' at *
   obtain ⟨s0, s1, s2, s3⟩ := ck
   obtain ⟨t0, t1, t2, t3⟩ := ck'
   have E : Hid ((Sl wr ra rs /\ Sl wr oa os) /\ (Sl wr ra' rs /\ Sl wr oa' os) /\ rs.length <= 1048576 /\ os.length <= 1048576) := ⟨E0, E1, hb⟩
   rw [ea] at x1
   rw [ea'] at y1
   clear ea ea' eS e1 e2 e3 e4 E0 E1 hb
   go_upto_region 6 with fail
   have q0 : Below wr.heap.size wr wr.drew := (Below.refl wr.heap.size wr).drew
   refine wp_region_G (fun w' => w'.cell? ⟨N, 1, none⟩ = some (.slice (some ⟨b, off, none⟩) x.sn x.sc) /\ w'.cell? ⟨N + 1, 1, none⟩ = some (.slice (some ⟨b', off', none⟩) x.sn x'.sc) /\ (w'.cell? ⟨b, off + k * 4, none⟩ = some (.int .i64 p) /\ w'.cell? ⟨b, off + k * 4 + 1, none⟩ = some (.slice ra rs.length rc) /\ w'.cell? ⟨b, off + k * 4 + 2, none⟩ = some (.slice oa os.length oc) /\ w'.cell? ⟨b, off + k * 4 + 3, none⟩ = some (.int .i64 cd)) /\ (w'.cell? ⟨b', off' + k * 4, none⟩ = some (.int .i64 p) /\ w'.cell? ⟨b', off' + k * 4 + 1, none⟩ = some (.slice ra' rs.length rc') /\ w'.cell? ⟨b', off' + k * 4 + 2, none⟩ = some (.slice oa' os.length oc') /\ w'.cell? ⟨b', off' + k * 4 + 3, none⟩ = some (.int .i64 cd))) (fun _ => false) (by kernel_rfl) ?_
   have hHeld : (fun w' : World => w'.cell? ⟨N, 1, none⟩ = some (.slice (some ⟨b, off, none⟩) x.sn x.sc) /\ w'.cell? ⟨N + 1, 1, none⟩ = some (.slice (some ⟨b', off', none⟩) x.sn x'.sc) /\ (w'.cell? ⟨b, off + k * 4, none⟩ = some (.int .i64 p) /\ w'.cell? ⟨b, off + k * 4 + 1, none⟩ = some (.slice ra rs.length rc) /\ w'.cell? ⟨b, off + k * 4 + 2, none⟩ = some (.slice oa os.length oc) /\ w'.cell? ⟨b, off + k * 4 + 3, none⟩ = some (.int .i64 cd)) /\ (w'.cell? ⟨b', off' + k * 4, none⟩ = some (.int .i64 p) /\ w'.cell? ⟨b', off' + k * 4 + 1, none⟩ = some (.slice ra' rs.length rc') /\ w'.cell? ⟨b', off' + k * 4 + 2, none⟩ = some (.slice oa' os.length oc') /\ w'.cell? ⟨b', off' + k * 4 + 3, none⟩ = some (.int .i64 cd))) wr.drew := ⟨(q0.cell (p := ⟨N, 1, none⟩) lN).trans x1, (q0.cell (p := ⟨N + 1, 1, none⟩) lM).trans y1, ⟨(q0.cell (p := ⟨b, _, none⟩) lb).trans s0, (q0.cell (p := ⟨b, _, none⟩) lb).trans s1, (q0.cell (p := ⟨b, _, none⟩) lb).trans s2, (q0.cell (p := ⟨b, _, none⟩) lb).trans s3⟩, ⟨(q0.cell (p := ⟨b', _, none⟩) lb').trans t0, (q0.cell (p := ⟨b', _, none⟩) lb').trans t1, (q0.cell (p := ⟨b', _, none⟩) lb').trans t2, (q0.cell (p := ⟨b', _, none⟩) lb').trans t3⟩⟩
   refine wpGT_of [0, 1, 2, 3, 4, 5, 6, 7, 8, 9] ?_
   iterate 10 (refine wpGT_take rfl hHeld ?_; apply Exists.intro; refine ⟨fun wq hSw => ?_, ?_⟩; (· ((try dsimp only at hSw); go_simp; try with_reducible rfl)); (try simp only [Act.put, zD, zE, zF]))
   refine wpGT_nil ?_
   refine wpG_one 10 rfl (by kernel_rfl) (fun K hK => ?_)
   refine stepR_call rfl 15 _ _ rfl #[stV p ra rs.length rc oa os.length oc cd, stV p ra' rs.length rc' oa' os.length oc' cd] (by simp [Act.eval]) (yA Tryz.func15 (by kernel_rfl) rfl) (sameState_same p cd ra oa ra' oa' rc oc rc' oc' rs os wr.drew E.out.2.2.1 E.out.2.2.2 (E.out.1.1.below q0) (E.out.1.2.below q0) (E.out.2.1.1.below q0) (E.out.2.1.2.below q0)) ?_
   rintro e w5 ⟨rfl, d5⟩
   refine ⟨_, rfl, ?_⟩
   have q5 : Below wr.heap.size wr w5 := q0.trans d5
   have hHeld5 : (fun w' : World => w'.cell? ⟨N, 1, none⟩ = some (.slice (some ⟨b, off, none⟩) x.sn x.sc) /\ w'.cell? ⟨N + 1, 1, none⟩ = some (.slice (some ⟨b', off', none⟩) x.sn x'.sc) /\ (w'.cell? ⟨b, off + k * 4, none⟩ = some (.int .i64 p) /\ w'.cell? ⟨b, off + k * 4 + 1, none⟩ = some (.slice ra rs.length rc) /\ w'.cell? ⟨b, off + k * 4 + 2, none⟩ = some (.slice oa os.length oc) /\ w'.cell? ⟨b, off + k * 4 + 3, none⟩ = some (.int .i64 cd)) /\ (w'.cell? ⟨b', off' + k * 4, none⟩ = some (.int .i64 p) /\ w'.cell? ⟨b', off' + k * 4 + 1, none⟩ = some (.slice ra' rs.length rc') /\ w'.cell? ⟨b', off' + k * 4 + 2, none⟩ = some (.slice oa' os.length oc') /\ w'.cell? ⟨b', off' + k * 4 + 3, none⟩ = some (.int .i64 cd))) w5 := ⟨(q5.cell (p := ⟨N, 1, none⟩) lN).trans x1, (q5.cell (p := ⟨N + 1, 1, none⟩) lM).trans y1, ⟨(q5.cell (p := ⟨b, _, none⟩) lb).trans s0, (q5.cell (p := ⟨b, _, none⟩) lb).trans s1, (q5.cell (p := ⟨b, _, none⟩) lb).trans s2, (q5.cell (p := ⟨b, _, none⟩) lb).trans s3⟩, ⟨(q5.cell (p := ⟨b', _, none⟩) lb').trans t0, (q5.cell (p := ⟨b', _, none⟩) lb').trans t1, (q5.cell (p := ⟨b', _, none⟩) lb').trans t2, (q5.cell (p := ⟨b', _, none⟩) lb').trans t3⟩⟩
   refine hK.out _ _ (fun _ => hHeld5) ?_
   clear hHeld
   have hHeld := hHeld5
   clear hHeld5 d5 hK K
   (try simp only [Act.put, zD, zE, zF])
   refine wpG_take 11 rfl hHeld ?_
   apply Exists.intro
   refine ⟨fun wq hSw => ?_, ?_⟩
   ·(try dsimp only at hSw)
    go_simp
    try with_reducible rfl
   (try simp only [Act.put, zD, zE, zF])
   refine wpG_done (by kernel_rfl) ?_ _
   have K5 : Hid (Tw w5 N x x' /\ Below N w w5) := ⟨HT.out.1.below q5, HT.out.2.trans (q5.mono (Nat.le_of_lt lN))⟩
   clear hHeld q5 q0 HT
   go_wp2
   go_roundw
   case rel => exact ⟨k + 1, by omega, by go_num, K5.out⟩
   case measure => simp [intOf]; omega
  ·go_wp2
   go_ret
   exact ⟨rfl, by rw [HNN.out]; exact HT.out.2⟩
def wayB (n wn : Nat) (a b : Int) : Bool := belB a n && belB b n && decide (a * n + b < wn)
def wayN (x : SysIn) (a b : Int) : Nat := if wayB x.pn x.wn a b = true then x.wL (a * x.pn + b).toNat else 0
def wayH (x : SysIn) (a b : Int) : Nat -> I2 := x.wH (a * x.pn + b).toNat
variable {z : Bool}
structure DN (w wr : World) (W0 c : Nat) (a0 : Option Addr) (len cap n : Nat) (v : Value) : Prop where
 cu : Cur wr W0 c a0 len cap
 be : Below w.heap.size w wr
 ow : ∃ H, wr.ownsRow (c + 1) 126 2 v n (fT H n)
 ne : v ≠ .slice none 0 0
 ge : w.heap.size <= c
structure WK (w wr : World) (X : Nat) (x : SysIn) : Prop where
 g : SysG wr x
 bx : BoxC wr X (.slice x.pa x.pn x.pc) (.slice x.sa x.sn x.sc) (.slice x.wa x.wn x.wc) (.slice x.ha x.hn x.hc)
 be : Below w.heap.size w wr
theorem WK.below {w wr w' : World} {X : Nat} {x : SysIn} (h : WK w wr X x) (hb : Below wr.heap.size wr w') : WK w w' X x := ⟨h.g.below hb, h.bx.below hb, h.be.trans (hb.mono h.be.size)⟩
theorem WK.lt {w wr : World} {X : Nat} {x : SysIn} (h : WK w wr X x) : X < wr.heap.size := zJ wr _ h.bx.1
theorem stepR_callD {ops : Array Oper} {o : Oper} {a : Act} {w : World} {K : Act -> World -> Prop} {Q : Exit -> Act -> World -> Prop} {E : Prop} (hw : Region.wanted o (yielded ops a.tmps) = true) (f : FuncId) (args : Array Operand) (ts : Array TypeId)
  (ho : o.op = .call { callee := .value (.func f), args := args, argTypes := ts }) (vals : Array Value) (hv : args.map a.eval = vals) (hen : ∀ vs wx, (callFunc f vs).run Tryz.prog wx = .ok (.enter f vs) wx) {post : Ending -> World -> Prop} (hc : Calls Tryz.prog f vals w post)
  (h : ∀ e w', post e w' -> ∃ v, e = .returned v /\ K (a.put o.dst v) w') :
  if Region.wanted o (yielded ops a.tmps) = true then Oper.wp Tryz.prog o a w K Q else E := by
 rw [if_pos hw]
 have hr : (execOp a.eval o).run Tryz.prog w = .ok (.enter f vals) w := by
  unfold execOp
  simp [ho, resolve, invoke, hv, hen, Act.eval, Deferred.ofValue]
 unfold Oper.wp
 rw [hr, Oper.upon_enter]
 refine hc.mono fun e w' hp => ?_
 obtain ⟨v, rfl, hk⟩ := h e w' hp
 exact hk
variable {z : Bool}
theorem cm_take {y : Sy} {p : Nat} {f : Int} (h : cmS y p f = 0) (hk : y.nk p = 3) : tkS y p (y.eq p f) = 0 := by
 unfold cmS at h
 rw [Sy.eq, if_pos hk]
 by_cases h1 : (y.sS p).c ≠ 0
 ·rw [if_pos h1] at h
  cases h
 ·rw [if_neg h1] at h
  by_cases h2 : fuS y p (y.nk p) (y.nq p) = true
  ·rw [if_pos h2] at h
   cases h
  ·rw [if_neg h2, if_pos hk] at h
   exact h
theorem tk_zero {y : Sy} {p : Nat} {g : Int} (h : tkS y p g = 0) : 0 <= g /\ g < y.pn /\ 0 < y.wL (g.toNat * y.pn + p) := by
 unfold tkS at h
 by_cases h1 : belB g y.pn = true
 ·rw [if_pos h1] at h
  simp only [belB, decide_eq_true_eq] at h1
  refine ⟨h1.1, h1.2, ?_⟩
  rcases Nat.eq_zero_or_pos (y.wL (g.toNat * y.pn + p)) with e | e
  ·rw [if_pos e] at h
   cases h
  ·exact e
 ·rw [if_neg h1] at h
  cases h
theorem cmV_step {x : SysIn} {p : Nat} {f : Int} (h : cmS x.y p f = 0) : cmV x p f = evV (x.y.nk p) (x.y.eq p f) (x.y.ev p f) := by
 have hc : cmC x p f = 0 := h
 unfold cmV
 rw [if_pos hc]
 by_cases hk : x.nk p = 3
 ·have ht : tkS x.y p (x.y.eq p f) = 0 := cm_take h hk
  have e : x.y.eq p f = if x.nq p = 9 then f else x.nq p := if_pos hk
  have e2 : x.y.ev p f = (x.y.wH ((x.y.eq p f).toNat * x.y.pn + p) 0).v := if_pos hk
  have e3 : x.y.nk p = 3 := hk
  rw [if_pos hk, <- e, e2, e3, tkV]
  have ht' : tkC x p (x.y.eq p f) = 0 := ht
  rw [if_pos ht']
  rfl
 ·have e : x.y.eq p f = x.nq p := if_neg hk
  have e2 : x.y.ev p f = x.nv p := if_neg hk
  rw [if_neg hk, e, e2]
  rfl
theorem implStep_any (x : SysIn) (p f : Int) (w : World) (hG : SysG w x) (hL : x.Len) (hN : x.Nn z) (hV : w.cell? ⟨0, 0, none⟩ = some (.iface 272 (.agg #[.pointer (some ⟨1, 172, none⟩)]))) :
  Calls Tryz.prog 11 #[x.v, .int .i64 p, .int .i64 f] w fun e w' => ∃ v, e = .returned (.tuple #[v, .int .i64 (stC x.y p f)]) /\ OwnSys z w' w.heap.size (stY x.y p f) v /\ Below w.heap.size w w' := by
 have HG : Hid (SysG w x) := hG
 have HL : Hid x.Len := hL
 have HS : Hid (∀ wx, Below w.heap.size w wx -> Calls Tryz.prog 16 #[x.v] wx fun e w' => e = .returned (.bool x.y.okB) /\ Below wx.heap.size wx w') := fun wx hb => implSysOk_any x wx (HG.out.below hb) hL ((hb.cell (p := ⟨0, 0, none⟩) (zJ w _ hV)).trans hV)
 have HC4 : Hid (∀ wx, Below w.heap.size w wx -> Calls Tryz.prog 41 #[x.v] wx fun e w' => ∃ v, e = .returned v /\ OwnSys z w' wx.heap.size x.y v /\ Below wx.heap.size wx w') := fun wx hb => copySys_any x wx (HG.out.below hb) hL hN
 have BW : Hid (Below w.heap.size w ((w.alloc (oQ4 x.pa x.pn x.pc x.sa x.sn x.sc x.wa x.wn x.wc x.ha x.hn x.hc)).alloc (zQ4))) := (zQ _ _).trans ((zQ _ _).mono (by simp))
 have NB : Hid (BoxC ((w.alloc (oQ4 x.pa x.pn x.pc x.sa x.sn x.sc x.wa x.wn x.wc x.ha x.hn x.hc)).alloc (zQ4)) w.heap.size (.slice x.pa x.pn x.pc) (.slice x.sa x.sn x.sc) (.slice x.wa x.wn x.wc) (.slice x.ha x.hn x.hc)) := (BoxC.new w _ _ _ _ _).below (zQ _ _)
 have RB : Hid (BoxC ((w.alloc (oQ4 x.pa x.pn x.pc x.sa x.sn x.sc x.wa x.wn x.wc x.ha x.hn x.hc)).alloc (zQ4)) (w.heap.size + 1) (.slice none 0 0) (.slice none 0 0) (.slice none 0 0) (.slice none 0 0) /\ ∀ j, ((w.alloc (oQ4 x.pa x.pn x.pc x.sa x.sn x.sc x.wa x.wn x.wc x.ha x.hn x.hc)).alloc (zQ4)).frozen? ⟨w.heap.size + 1, j, none⟩ = false) := ⟨⟨zW _ _ _ 0 (by simp), zW _ _ _ 1 (by simp), zW _ _ _ 2 (by simp), zW _ _ _ 3 (by simp)⟩, fun j => yB _ _ _ _ (by simp)⟩
 have hM : w.heap.size <= w.heap.size + 1 := Nat.le_succ _
 clear hG hL hN hV
 go_enter Tryz.func11, Tryz.ntmps11
 go_wp2_with fail
 generalize (w.alloc (oQ4 x.pa x.pn x.pc x.sa x.sn x.sc x.wa x.wn x.wc x.ha x.hn x.hc)).alloc (zQ4) = W2 at *
 refine (HS.out W2 BW.out).mono ?_
 rintro e w1 ⟨rfl, q1⟩
 have B1 : Hid (Below w.heap.size w w1 /\ BoxC w1 w.heap.size (.slice x.pa x.pn x.pc) (.slice x.sa x.sn x.sc) (.slice x.wa x.wn x.wc) (.slice x.ha x.hn x.hc) /\ BoxC w1 (w.heap.size + 1) (.slice none 0 0) (.slice none 0 0) (.slice none 0 0) (.slice none 0 0) /\ ∀ j, w1.frozen? ⟨w.heap.size + 1, j, none⟩ = false) := ⟨BW.out.trans (q1.mono BW.out.size), NB.out.below q1, RB.out.1.below q1, fun j => ((bcell q1).2 _ j (zJ _ _ RB.out.1.1)).trans (RB.out.2 j)⟩
 clear q1 BW NB RB HS
 have l1 : w.heap.size + 1 < w1.heap.size := zJ _ _ B1.out.2.2.1.1
 obtain ⟨b0, b1, b2, b3⟩ := B1.out.2.1
 rcases zK x.y.okB with t | t
 case inr =>
  have HV : Hid (stC x.y p f = 1 /\ stY x.y p f = { x.y with pn := 0, sn := 0, wn := 0, hn := 0 }) := ⟨if_neg (by rw [t]; simp), if_neg (by rw [t]; simp)⟩
  obtain ⟨⟨r0, r1, r2, r3⟩, rf⟩ := B1.out.2.2
  rw [t]
  clear t
  go_wp2
  exact bodyPost_ret (v := .tuple #[sysV none 0 0 none 0 0 none 0 0 none 0 0, .int .i64 1]) (by simp [results, Tryz.results11, go_sem, r0, r1, r2, r3]) rfl ⟨_, by rw [HV.out.1], by rw [HV.out.2]; exact OwnSys.zero _ _ _, (((B1.out.1.setCell hM _).setCell hM _).setCell hM _).setCell hM _⟩
 have HO : Hid x.y.Ok := Sy.ok_of t
 obtain ⟨k, q, v0, HCM⟩ : ∃ k q v0 : Int, Hid ((∀ wx, Below w.heap.size w wx -> Calls Tryz.prog 42 #[x.v, .int .i64 p, .int .i64 f] wx fun e w' => e = .returned (.tuple #[evV k q v0, .int .i64 (stC x.y p f)]) /\ Below wx.heap.size wx w') /\ (stC x.y p f ≠ 0 -> stY x.y p f = x.y) /\ (stC x.y p f = 0 -> ∃ a : Nat, p = a /\ a < x.y.pn /\ stY x.y p f = (x.y.evt a k q v0).way a k q v0 /\ (k = 2 -> 0 <= q /\ q < x.y.pn) /\ (k = 3 -> 0 <= q /\ q < x.y.pn /\ 0 < x.y.wL (q.toNat * x.y.pn + a)))) := by
  by_cases hb : belB p x.y.pn = true
  ·have hb' : 0 <= p /\ p < (x.y.pn : Int) := by simpa [belB] using hb
   obtain ⟨a, rfl⟩ : ∃ a : Nat, p = a := ⟨p.toNat, by omega⟩
   have ha : a < x.y.pn := by omega
   obtain ⟨⟨h1, h4⟩, hs, hh, hw⟩ := HO.out.cn
   have hC : stC x.y (a : Int) f = cmS x.y a f := by rw [stC, if_pos t, if_pos hb, Int.toNat_natCast]
   have hY : stY x.y (a : Int) f = x.y.step a f := by rw [stY, if_pos t, if_pos hb, Int.toNat_natCast]
   have hcall : ∀ wx, Below w.heap.size w wx -> Calls Tryz.prog 42 #[x.v, .int .i64 a, .int .i64 f] wx fun e w' => e = .returned (.tuple #[cmV x a f, .int .i64 (cmC x a f)]) /\ Below wx.heap.size wx w' := fun wx hbx => comingIn_any x a f wx (HG.out.below hbx) HL.out ha h4 hs hh hw (HO.out.four ha) (HO.out.peer ha)
   by_cases h0 : cmS x.y a f = 0
   ·refine ⟨x.y.nk a, x.y.eq a f, x.y.ev a f, fun wx hbx => ?_, fun hne => absurd (hC.trans h0) hne, fun _ => ⟨a, rfl, ha, ?_, fun hk => ?_, fun hk => ?_⟩⟩
    ·rw [hC, <- cmV_step h0]
     exact hcall wx hbx
    ·rw [hY, Sy.step, if_pos h0, Sy.way_evt]
    ·have := HO.out.peer ha hk
     rw [Sy.eq, if_neg (by rw [hk]; decide)]
     exact this
    ·exact tk_zero (cm_take h0 hk)
   ·refine ⟨0, 0, 0, fun wx hbx => ?_, fun _ => hY.trans (Sy.step_no h0), fun h => absurd (hC.symm.trans h) h0⟩
    have e : cmV x a f = evV 0 0 0 := if_neg h0
    rw [hC, <- e]
    exact hcall wx hbx
  ·have hC : stC x.y p f = 2 := by rw [stC, if_pos t, if_neg hb]
   refine ⟨0, 0, 0, fun wx _ => ?_, fun _ => ?_, fun h => ?_⟩
   ·rw [hC]
    exact comingIn_out x p f wx (by
     cases h : belB p x.pn with
     | false => rfl
     | true => exact absurd h hb)
   ·rw [stY, if_pos t, if_neg hb]
   ·rw [hC] at h
    cases h
 generalize hC : stC x.y p f = C at *
 generalize hY : stY x.y p f = Y at *
 have HCY : Hid (stC x.y p f = C /\ stY x.y p f = Y) := ⟨hC, hY⟩
 clear hC hY
 rw [t]
 clear t HL HG
 go_wp2_with fail
 refine (HC4.out w1 B1.out.1).mono ?_
 rintro e w3 ⟨v3, rfl, o3, q3⟩
 obtain ⟨c, vp, vs, vw, vh, up, us, uw, uh, rfl, o3⟩ := o3
 obtain ⟨pa, pc, rfl⟩ := zU o3.p.row
 obtain ⟨sa, sc, rfl⟩ := zU o3.s.row
 obtain ⟨wa, wc, rfl⟩ := zU o3.t.row
 obtain ⟨ha, hc, rfl⟩ := zU o3.h.row
 have ba := zQ w3 (oQ4 pa x.y.pn pc sa x.y.sn sc wa x.y.wn wc ha x.y.hn hc)
 have Q4 := q3.trans (ba.mono q3.size)
 have B4 : Hid (Below w1.heap.size w1 (w3.alloc (oQ4 pa x.y.pn pc sa x.y.sn sc wa x.y.wn wc ha x.y.hn hc)) /\ BoxC (w3.alloc (oQ4 pa x.y.pn pc sa x.y.sn sc wa x.y.wn wc ha x.y.hn hc)) w3.heap.size (.slice pa x.y.pn pc) (.slice sa x.y.sn sc) (.slice wa x.y.wn wc) (.slice ha x.y.hn hc) /\ OwnS z (w3.alloc (oQ4 pa x.y.pn pc sa x.y.sn sc wa x.y.wn wc ha x.y.hn hc)) w1.heap.size (rcol c w3.heap.size 0) x.y (.slice pa x.y.pn pc) (.slice sa x.y.sn sc) (.slice wa x.y.wn wc) (.slice ha x.y.hn hc) up us uw uh /\ w1.heap.size <= w3.heap.size) := ⟨Q4, BoxC.new w3 _ _ _ _ _, (o3.recol 0).below ba, q3.size⟩
 go_upto_region 4 with fail
 clear o3 q3 ba b0 b1 b2 b3
 generalize hA : w3.heap.size = A at *
 clear hA
 generalize w3.alloc (oQ4 pa x.y.pn pc sa x.y.sn sc wa x.y.wn wc ha x.y.hn hc) = W4 at *
 have BW4 : Hid (Below w.heap.size w W4) := B1.out.1.trans (B4.out.1.mono B1.out.1.size)
 obtain ⟨b0, b1, b2, b3⟩ := B1.out.2.1.below B4.out.1
 go_wp2_with fail
 refine (HCM.out.1 W4 BW4.out).mono ?_
 rintro e w5 ⟨rfl, q5⟩
 have bb := zQ w5 (oQ1 k q v0)
 have Q6 := q5.trans (bb.mono q5.size)
 have lA : A < W4.heap.size := zJ _ _ B4.out.2.1.1
 have B6 : Hid (Below w1.heap.size w1 (w5.alloc (oQ1 k q v0)) /\ BoxC (w5.alloc (oQ1 k q v0)) A (.slice pa x.y.pn pc) (.slice sa x.y.sn sc) (.slice wa x.y.wn wc) (.slice ha x.y.hn hc) /\ OwnS z (w5.alloc (oQ1 k q v0)) w1.heap.size (rcol c A 0) x.y (.slice pa x.y.pn pc) (.slice sa x.y.sn sc) (.slice wa x.y.wn wc) (.slice ha x.y.hn hc) up us uw uh /\ w1.heap.size <= A /\ A < (w5.alloc (oQ1 k q v0)).heap.size /\ EvK (w5.alloc (oQ1 k q v0)) w5.heap.size k q v0) := ⟨B4.out.1.trans (Q6.mono B4.out.1.size), B4.out.2.1.below Q6, B4.out.2.2.1.below Q6, B4.out.2.2.2, zL lA Q6.size, EvK.new w5 _ _ _ _⟩
 go_upto_region 5 with fail
 clear q5 bb Q6 lA B4 BW4 b0 b1 b2 b3
 generalize hE : w5.heap.size = E at *
 clear hE
 generalize w5.alloc (oQ1 k q v0) = W6 at *
 by_cases hc0 : C = 0
 ·obtain ⟨a, ea, ha', hY, hk2, hk3⟩ := HCM.out.2.2 hc0
  subst ea
  subst hc0
  have HH : Hid (Calls Tryz.prog 43 #[.agg #[.slice pa x.y.pn pc, .slice sa x.y.sn sc, .slice wa x.y.wn wc, .slice ha x.y.hn hc], .int .i64 a, evV k q v0] W6 fun e w' => e = .returned (.tuple #[]) /\ Below w1.heap.size W6 w' /\ (∀ b, b < W6.heap.size -> rcol c A 0 b = 0 -> w'.heap[b]? = W6.heap[b]?) /\ OwnSys z w' w1.heap.size Y (.agg #[.slice pa x.y.pn pc, .slice sa x.y.sn sc, .slice wa x.y.wn wc, .slice ha x.y.hn hc])) := by
   have h := happen_any x.y a k q v0 W6 w1.heap.size _ _ _ _ _ up us uw uh B6.out.2.2.1 B6.out.1.size HO.out ha' hk2 hk3
   rw [<- hY] at h
   exact h
  obtain ⟨a0, a1, a2, a3⟩ := B6.out.2.1
  obtain ⟨e0, e1, e2, -⟩ := B6.out.2.2.2.2.2
  clear hY hk2 hk3 HCM
  go_wp2_with fail
  refine HH.out.mono ?_
  rintro e w7 ⟨rfl, q7, kp, o7⟩
  have hAb := kp A B6.out.2.2.2.2.1 (rcol_new (Nat.le_refl _))
  have B7 : Hid (Below w1.heap.size w1 w7 /\ OwnSys z w7 w1.heap.size Y (.agg #[.slice pa x.y.pn pc, .slice sa x.y.sn sc, .slice wa x.y.wn wc, .slice ha x.y.hn hc])) := ⟨B6.out.1.trans q7, o7⟩
  have c0 := (zH hAb).trans a0
  have c1 := (zH hAb).trans a1
  have c2 := (zH hAb).trans a2
  have c3 := (zH hAb).trans a3
  obtain ⟨r0, r1, r2, r3⟩ := B1.out.2.2.1.below B7.out.1
  have rf : ∀ j, w7.frozen? ⟨w.heap.size + 1, j, none⟩ = false := fun j => ((bcell B7.out.1).2 _ j l1).trans (B1.out.2.2.2 j)
  clear a0 a1 a2 a3 e0 e1 e2 hAb kp o7 q7 HH
  go_wp2
  exact bodyPost_ret (v := .tuple #[.agg #[.slice pa x.y.pn pc, .slice sa x.y.sn sc, .slice wa x.y.wn wc, .slice ha x.y.hn hc], .int .i64 0]) (by simp [results, Tryz.results11, go_sem, r0, r1, r2, r3]) rfl ⟨_, by rw [HCY.out.1], by
   rw [HCY.out.2]
   exact ((((B7.out.2.setBelow l1 0 _).setBelow l1 1 _).setBelow l1 2 _).setBelow l1 3 _).base B1.out.1.size, ((((B1.out.1.trans (B7.out.1.mono B1.out.1.size)).setCell hM _).setCell hM _).setCell hM _).setCell hM _⟩
 ·have tc : (C == 0) = false := by simpa using hc0
  have hY := HCM.out.2.1 hc0
  have B7 : Hid (Below w1.heap.size w1 W6 ∧ OwnSys z W6 w1.heap.size Y (.agg #[.slice pa x.y.pn pc, .slice sa x.y.sn sc, .slice wa x.y.wn wc, .slice ha x.y.hn hc])) := ⟨B6.out.1, by
   rw [hY]
   exact ⟨_, _, _, _, _, up, us, uw, uh, rfl, B6.out.2.2.1⟩⟩
  obtain ⟨c0, c1, c2, c3⟩ := B6.out.2.1
  obtain ⟨r0, r1, r2, r3⟩ := B1.out.2.2.1.below B7.out.1
  have rf : ∀ j, W6.frozen? ⟨w.heap.size + 1, j, none⟩ = false := fun j => ((bcell B7.out.1).2 _ j l1).trans (B1.out.2.2.2 j)
  clear hY HCM hc0
  go_wp2
  exact bodyPost_ret (v := .tuple #[.agg #[.slice pa x.y.pn pc, .slice sa x.y.sn sc, .slice wa x.y.wn wc, .slice ha x.y.hn hc], .int .i64 C]) (by simp [results, Tryz.results11, go_sem, r0, r1, r2, r3]) rfl ⟨_, by rw [HCY.out.1], by
   rw [HCY.out.2]
   exact ((((B7.out.2.setBelow l1 0 _).setBelow l1 1 _).setBelow l1 2 _).setBelow l1 3 _).base B1.out.1.size, ((((B1.out.1.trans (B7.out.1.mono B1.out.1.size)).setCell hM _).setCell hM _).setCell hM _).setCell hM _⟩
end Go.Proofs.YtcplnkhdclcgfaaGreatDoor
