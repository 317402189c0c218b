/- whatever bytes are drawn by, a drawn system and its ways are told as the chapter says, and what was taken from a way and what is on it are what was sent; nothing is written into what came in. One condition, tied to the program's text: errors.errorType holds what its text lays. -/
import Derived.Test.YtbleeedbiipfnaaGreatDoorWc0
import Derived.Test.YtbleeedbiipfnaaGreatDoorWc49
import Derived.Test.YtbleeedbiipfnaaGreatDoorWc9
import Derived.Deep.RegionLaw
import Derived.Test.YtbleeedbiipfnaaGreatDoorWc45
import Derived.Test.YtbleeedbiipfnaaGreatDoorWc32
import Derived.Test.YtbleeedbiipfnaaGreatDoorWc41
import Derived.Test.YtbleeedbiipfnaaGreatDoorWc38
import Derived.Test.YtbleeedbiipfnaaGreatDoorWc44
import Derived.Deep.Cut
import Derived.Test.YtbleeedbiipfnaaGreatDoorWc7
import Derived.Test.YtbleeedbiipfnaaGreatDoorCards
import Derived.SevenTiedAt
namespace Go.Proofs.YtbleeedbiipfnaaGreatDoor
set_option maxRecDepth 100000
set_option maxHeartbeats 16000000
open Go.RowKit Go.Deep
theorem DrwS.fin {w wz : World} {W0 c len cap N B T : Nat} {a0 : Option Addr} {x : SysIn} (hX : SysX wz B T x) (hs : x.y.Sm) (hc : Cur wz W0 c a0 len cap) (hg : w.grownBy wz (some c)) (hcB : c < B) (hN : N < B) (hNw : w.heap.size ≤ N) (hcN : c ≠ N) (hW : W0 ≤ N) (hT : T ≤ wz.heap.size) (u0 u1 u2 u3 : Value) : DrwS w W0 c a0 len cap (.returned x.v) ((((wz.setCell ⟨N, 0, none⟩ u0).setCell ⟨N, 1, none⟩ u1).setCell ⟨N, 2, none⟩ u2).setCell ⟨N, 3, none⟩ u3) := by
 have h1 : ∀ (wx : World) (j : Nat) (u : Value), SysX wx B T x ∧ Cur wx W0 c a0 len cap ∧ w.grownBy wx (some c) ∧ T ≤ wx.heap.size → SysX (wx.setCell ⟨N, j, none⟩ u) B T x ∧ Cur (wx.setCell ⟨N, j, none⟩ u) W0 c a0 len cap ∧ w.grownBy (wx.setCell ⟨N, j, none⟩ u) (some c) ∧ T ≤ (wx.setCell ⟨N, j, none⟩ u).heap.size := fun wx j u ⟨a, b, d, e⟩ => by
  have hgg : wx.grownBy (wx.setCell ⟨N, j, none⟩ u) (some N) := grown_setCell (World.grownBy.refl _ _) (.inl rfl) u
  exact ⟨a.keep (by simp) fun b hb _ hl => hgg.block b hl (by simp; omega), b.kept hgg (fun e => hcN (by simpa using e)) (fun k hk => by cases hk; exact hW), d.andThen hgg (fun k hk => by cases hk; exact .inl hNw), by simpa using e⟩
 obtain ⟨a, b, d, e⟩ := h1 _ 3 u3 (h1 _ 2 u2 (h1 _ 1 u1 (h1 _ 0 u0 ⟨hX, hc, hg, hT⟩)))
 exact ⟨x, B, T, rfl, hs, a, b, d, hcB, e⟩
theorem sysV_inj {pa sa wa ha : Option Addr} {pn pc sn sc wn wc hn hc : Nat} {vp vs vw vh : Value} (h : sysV pa pn pc sa sn sc wa wn wc ha hn hc = .agg #[vp, vs, vw, vh]) : vp = .slice pa pn pc ∧ vs = .slice sa sn sc ∧ vw = .slice wa wn wc ∧ vh = .slice ha hn hc := by
 simp only [sysV, Value.agg.injEq, Array.mk.injEq, List.cons.injEq, and_true] at h
 exact ⟨h.1.symm, h.2.1.symm, h.2.2.1.symm, h.2.2.2.symm⟩
structure KX (w wr : World) (W0 c : Nat) (a0 : Option Addr) (len cap N B T : Nat) (col : Nat → Nat) (y : Sy) (vp vs vw vh : Value) (up us uw uh : Nat → Value) : Prop where
 cu : Cur wr W0 c a0 len cap
 gr : w.grownBy wr (some c)
 ow : OwnS false wr B col y vp vs vw vh up us uw uh
 b4 : Bx wr w.heap.size (.slice none 0 0) (.slice none 0 0) (.slice none 0 0) (.slice none 0 0)
 b5 : Bx wr N vp vs vw vh
 tp : ∀ b, T ≤ b → col b = 0
 sz : c < w.heap.size ∧ w.heap.size < B ∧ T ≤ N ∧ w.heap.size < N
section
variable {w wr w' : World} {W0 c len cap N B T : Nat} {a0 : Option Addr} {col : Nat → Nat} {y : Sy} {vp vs vw vh : Value} {up us uw uh : Nat → Value}
theorem OwnS.kept {z : Bool} (o : OwnS z wr B col y vp vs vw vh up us uw uh) (h : ∀ k, B ≤ k → k < wr.heap.size → w'.heap[k]? = wr.heap[k]?) : OwnS z w' B col y vp vs vw vh up us uw uh :=
 ⟨o.p.keep fun k hk hl => h k hk.1 hl, o.s.keep fun k hk hl => h k hk.1 hl, o.t.keep fun k hk hl => h k hk.1 hl, o.h.keep fun k hk hl => h k hk.1 hl⟩
theorem KX.draw (h : KX w wr W0 c a0 len cap N B T col y vp vs vw vh up us uw uh) (hc : Cur w' W0 c a0 len cap) (hg : wr.grownBy w' (some c)) : KX w w' W0 c a0 len cap N B T col y vp vs vw vh up us uw uh :=
 ⟨hc, h.gr.trans hg, h.ow.kept fun k hk hl => hg.block k hl (by have := h.sz; simp; omega), h.b4.grown hg (by have := h.sz; simp; omega), h.b5.grown hg (by have := h.sz; simp; omega), h.tp, h.sz⟩
theorem KX.below (h : KX w wr W0 c a0 len cap N B T col y vp vs vw vh up us uw uh) (hb : Below wr.heap.size wr w') : KX w w' W0 c a0 len cap N B T col y vp vs vw vh up us uw uh :=
 ⟨h.cu.kept (grown_of_below hb) (by simp) (fun k hk => by cases hk), h.gr.andThen (grown_of_below hb) (fun j hj => by cases hj), h.ow.below hb, h.b4.below hb, h.b5.below hb, h.tp, h.sz⟩
theorem KX.apart (h : KX w wr W0 c a0 len cap N B T col y vp vs vw vh up us uw uh) {i g : Nat} (hi : i ≠ 0) (hg : Cl B col i g) : g ≠ c ∧ g ≠ w.heap.size ∧ g ≠ N ∧ w.heap.size < g := by
 have h1 : B ≤ g := hg.1
 have h2 : col g = i := hg.2
 have h3 : g < T := by
  apply Classical.byContradiction
  intro hn
  have := h.tp g (by omega)
  omega
 have := h.sz
 omega
end
theorem l6Draw_any (W0 c len cap : Nat) (a0 : Option Addr) (w : World) (hc : Cur w W0 c a0 len cap) :
  Calls Tryz.prog 50 #[.pointer (some ⟨c, 0, none⟩), .slice a0 len cap] w (DrwS w W0 c a0 len cap) := by
 have hcl : c < w.heap.size := hc.lt
 have hcg : W0 ≤ c := hc.ge
 have C0 : Hid (Cur (w.alloc (zQ3)) W0 c a0 len cap ∧ w.grownBy (w.alloc (zQ3)) (some c) ∧ Bx (w.alloc (zQ3)) w.heap.size (.slice none 0 0) (.slice none 0 0) (.slice none 0 0) (.slice none 0 0) ∧ (w.alloc (zQ3)).heap.size = w.heap.size + 1) := ⟨hc.alloc _, World.grownBy_alloc _ _ _, Bx.new w _ _ _ _ _, by simp⟩
 clear hc
 go_enter Tryz.func50, Tryz.ntmps50
 go_wp2_with fail
 generalize w.alloc (zQ3) = W2 at *
 refine (l6DrawRight_any W0 c len cap a0 W2 C0.out.1).mono ?_
 rintro e w1 ⟨B, T, y, pa, sa, wa, ha, pc, sc, wc, hh, rfl, gd, dk, hB, hT⟩
 have KA : Hid (DK w (w1.alloc (oQ4 pa y.pn pc sa y.sn sc wa y.wn wc ha y.hn hh)) W0 c a0 len cap B T y (sysV pa y.pn pc sa y.sn sc wa y.wn wc ha y.hn hh) ∧ Bx (w1.alloc (oQ4 pa y.pn pc sa y.sn sc wa y.wn wc ha y.hn hh)) w.heap.size (.slice none 0 0) (.slice none 0 0) (.slice none 0 0) (.slice none 0 0) ∧ Bx (w1.alloc (oQ4 pa y.pn pc sa y.sn sc wa y.wn wc ha y.hn hh)) w1.heap.size (.slice pa y.pn pc) (.slice sa y.sn sc) (.slice wa y.wn wc) (.slice ha y.hn hh)) := ⟨DK.alloc ⟨dk.cu, dk.sy, C0.out.2.1.trans dk.gr, dk.lt⟩ _, (C0.out.2.2.1.grown dk.gr (by simp; omega)).below (below_allocL _ _), Bx.new _ _ _ _ _ _⟩
 have HS : Hid (w.heap.size < B ∧ T ≤ w1.heap.size ∧ w.heap.size < w1.heap.size) := ⟨by have := C0.out.2.2.2; omega, hT, by have := C0.out.2.2.2; have := dk.gr.size; omega⟩
 have HG : Hid y.Good := gd
 have hpn : y.pn ≤ 16 := gd.sm.n.1
 have hpn' : (y.pn : Int) ≤ 16 := by omega
 clear gd dk hB hT C0
 go_wp2_with fail
 generalize w1.alloc (oQ4 pa y.pn pc sa y.sn sc wa y.wn wc ha y.hn hh) = wA at *
 generalize w1.heap.size = N at *
 refine (l1Max_any _ _ _).mono ?_
 rintro e wB ⟨n, rfl, ⟨n1, n2, n3⟩, rfl⟩
 go_wp2_with fail
 refine (l1Below_any W0 c len cap a0 n wB KA.out.1.cu n2 (by omega)).mono ?_
 rintro e w2 ⟨pp, rfl, ⟨p0, p1⟩, hc2, hg2⟩
 have KB : Hid (DK w w2 W0 c a0 len cap B T y (sysV pa y.pn pc sa y.sn sc wa y.wn wc ha y.hn hh) ∧ Bx w2 w.heap.size (.slice none 0 0) (.slice none 0 0) (.slice none 0 0) (.slice none 0 0) ∧ Bx w2 N (.slice pa y.pn pc) (.slice sa y.sn sc) (.slice wa y.wn wc) (.slice ha y.hn hh)) := ⟨KA.out.1.draw hc2 hg2, KA.out.2.1.grown hg2 (by simp; omega), KA.out.2.2.grown hg2 (by have := HS.out; simp; omega)⟩
 clear hc2 hg2 KA
 obtain ⟨p, rfl⟩ : ∃ p : Nat, pp = p := ⟨pp.toNat, by omega⟩
 have hNN : w.heap.size ≠ N := by have := HS.out; omega
 by_cases h0 : y.pn = 0
 ·have h0' : ((y.pn : Int) == 0) = true := by simp [h0]
  clear h0
  obtain ⟨⟨r0, r1, r2, r3⟩, rf⟩ := KB.out.2.1
  obtain ⟨⟨b0, b1, b2, b3⟩, -⟩ := KB.out.2.2
  go_wp2
  obtain ⟨x, ev, ey, hX⟩ := KB.out.1.sy.x
  refine bodyPost_ret (v := (sysV pa y.pn pc sa y.sn sc wa y.wn wc ha y.hn hh)) (by simp [results, Tryz.results50, go_sem, r0, r1, r2, r3]) rfl ?_
  rw [ev]
  exact DrwS.fin hX (by rw [ey]; exact HG.out.sm) KB.out.1.cu KB.out.1.gr KB.out.1.lt HS.out.1 (Nat.le_refl _) (by omega) (by omega) (by have := KB.out.2.2.lt; have := HS.out; omega) _ _ _ _
 have h0' : ((y.pn : Int) == 0) = false := by
  have : ¬ (y.pn : Int) = 0 := by omega
  simpa using this
 have HO : Hid y.Ok := HG.out.elim id fun h => absurd h.1 h0
 have hpp : p < y.pn := by omega
 obtain ⟨b0, -, -, -⟩ := KB.out.2.2.bx
 go_wp2_with fail
 clear b0
 refine (l1Below_any W0 c len cap a0 25 w2 KB.out.1.cu (by omega) (by omega)).mono ?_
 rintro e w3 ⟨jj, rfl, ⟨j0, j1⟩, hc3, hg3⟩
 have KC : Hid (DK w w3 W0 c a0 len cap B T y (sysV pa y.pn pc sa y.sn sc wa y.wn wc ha y.hn hh) ∧ Bx w3 w.heap.size (.slice none 0 0) (.slice none 0 0) (.slice none 0 0) (.slice none 0 0) ∧ Bx w3 N (.slice pa y.pn pc) (.slice sa y.sn sc) (.slice wa y.wn wc) (.slice ha y.hn hh)) := ⟨KB.out.1.draw hc3 hg3, KB.out.2.1.grown hg3 (by simp; omega), KB.out.2.2.grown hg3 (by have := HS.out; simp; omega)⟩
 clear hc3 hg3 KB HG
 by_cases e0 : jj = 0
 ·subst e0
  obtain ⟨col, vp, vs, vw, vh, up, us, uw, uh, ev, o, ht⟩ := KC.out.1.sy
  obtain ⟨rfl, rfl, rfl, rfl⟩ := sysV_inj ev
  have hsn : y.sn = y.pn := HO.out.cn.2.1
  have hps : p < y.sn := by omega
  have hps' : (p : Int) < (y.sn : Int) := by omega
  clear hsn
  obtain ⟨g, cg, rb, rn, rc, oa, oc, eg, cr, -, -, -, cz, fz, Pg, Pr, lr, lg, ls⟩ := o.s.reg hps (HO.out.st (p := p) hpp).len.1 5
  simp only [Value.slice.injEq] at eg
  obtain ⟨rfl, -, rfl⟩ := eg
  have hrT : rb < T := by
   apply Classical.byContradiction
   intro hn
   have h1 := ht rb (by omega)
   have h2 : col rb = 2 := Pr.2
   omega
  have hrN : N ≠ rb := by have := HS.out; omega
  have hrM : w.heap.size ≠ rb := by have h1 : B ≤ rb := Pr.1; have := HS.out; omega
  have hrc : c ≠ rb := by have h1 : B ≤ rb := Pr.1; have := HS.out; omega
  obtain ⟨⟨r0, r1, r2, r3⟩, rf⟩ := (KC.out.2.1.set (j := 1) (u := .int .i64 5) hrM)
  obtain ⟨⟨b0, b1, b2, b3⟩, -⟩ := (KC.out.2.2.set (j := 1) (u := .int .i64 5) hrN)
  obtain ⟨⟨e0, e1, e2, e3⟩, -⟩ := KC.out.2.2
  have SZ : Hid (SysT (w3.setCell ⟨rb, 1, none⟩ (.int .i64 5)) B T (y.setS p ⟨(y.sS p).p, (y.sS p).rs.set 1 5, (y.sS p).os, (y.sS p).c⟩) (sysV pa y.pn pc (some ⟨g, 0, none⟩) y.sn sc wa y.wn wc ha y.hn hh)) := by
   have hk : ∀ q, q ≠ 2 → ∀ k, Cl B col q k → k < w3.heap.size → (w3.setCell ⟨rb, 1, none⟩ (.int .i64 5)).heap[k]? = w3.heap[k]? := fun q hq k hk _ => Below.heap_setCell _ _ _ _ fun e => hq (by rw [← hk.2, show k = rb from e]; exact Pr.2)
   exact ⟨col, _, _, _, _, up, us, uw, uh, rfl, ⟨o.p.keep (hk 1 (by decide)), ls, o.t.keep (hk 3 (by decide)), o.h.keep (hk 4 (by decide))⟩, ht⟩
  have SM : Hid (y.setS p ⟨(y.sS p).p, (y.sS p).rs.set 1 5, (y.sS p).os, (y.sS p).c⟩).Sm := by
   have hm := HO.out.sm
   refine ⟨hm.n, hm.p, fun i hi => ?_, hm.w, hm.h⟩
   show ((if i = p then _ else y.sS i : S4)).rs.length ≤ 1000 ∧ ((if i = p then _ else y.sS i : S4)).os.length ≤ 1000
   by_cases ei : i = p
   ·subst ei
    simp only [if_true, List.length_set]
    exact hm.s i hi
   ·rw [if_neg ei]
    exact hm.s i hi
  have KZ : Hid (Cur (w3.setCell ⟨rb, 1, none⟩ (.int .i64 5)) W0 c a0 len cap ∧ w.grownBy (w3.setCell ⟨rb, 1, none⟩ (.int .i64 5)) (some c)) := by
   have hgg : w3.grownBy (w3.setCell ⟨rb, 1, none⟩ (.int .i64 5)) (some rb) := grown_setCell (World.grownBy.refl _ _) (.inl rfl) _
   have h1 : B ≤ rb := Pr.1
   have := HS.out
   exact ⟨KC.out.1.cu.kept hgg (fun e => hrc (by simpa using e)) (fun k hk => by cases hk; omega), KC.out.1.gr.andThen hgg (fun k hk => by cases hk; exact .inl (by omega))⟩
  clear o ht ls ev
  go_upto_region 20 with fail
  clear e0 e1 e2 e3 cr cz fz
  generalize w3.setCell ⟨rb, 1, none⟩ (.int .i64 5) = wz at *
  go_wp2
  obtain ⟨x, ev, ey, hX⟩ := SZ.out.x
  refine bodyPost_ret (v := (sysV pa y.pn pc (some ⟨g, 0, none⟩) y.sn sc wa y.wn wc ha y.hn hh)) (by simp [results, Tryz.results50, go_sem, r0, r1, r2, r3]) rfl ?_
  rw [show (sysV pa y.pn pc (some ⟨g, 0, none⟩) y.sn sc wa y.wn wc ha y.hn hh) = x.v from ev]
  exact DrwS.fin hX (by rw [ey]; exact SM.out) KZ.out.1 KZ.out.2 KC.out.1.lt HS.out.1 (Nat.le_refl _) (by omega) (by omega) (by have := World.block_lt_of_cell? wz _ b0; have := HS.out; simp at *; omega) _ _ _ _
 have t0 : (jj == 0) = false := by simpa using e0
 by_cases e1 : jj = 1
 ·subst e1
  clear t0 e0
  obtain ⟨col, vp, vs, vw, vh, up, us, uw, uh, ev, o, ht⟩ := KC.out.1.sy
  obtain ⟨rfl, rfl, rfl, rfl⟩ := sysV_inj ev
  have hsn : y.sn = y.pn := HO.out.cn.2.1
  have hhn : y.hn = y.pn := HO.out.cn.2.2.1
  have hph : p < y.hn := by omega
  have hph' : (p : Int) < (y.hn : Int) := by omega
  clear hsn hhn
  have KX3 : Hid (KX w w3 W0 c a0 len cap N B T col y (.slice pa y.pn pc) (.slice sa y.sn sc) (.slice wa y.wn wc) (.slice ha y.hn hh) up us uw uh) := ⟨KC.out.1.cu, KC.out.1.gr, o, KC.out.2.1, KC.out.2.2, ht, hcl, HS.out.1, HS.out.2.1, HS.out.2.2⟩
  clear o ht ev KC
  obtain ⟨g, chh, eh, Pg, lg, cg, fg⟩ := KX3.out.ow.h.cell hph
  simp only [Value.slice.injEq] at eh
  obtain ⟨rfl, -, rfl⟩ := eh
  obtain ⟨ua, uc, eu⟩ := ownsRow_slice (KX3.out.ow.h.own p hph)
  rw [eu] at cg
  have hN3 := KX3.out.b5.bx.2.2.2
  have hlp : y.hL p ≤ 200 := HO.out.le200 hpp
  have AP : Hid (g ≠ c ∧ g ≠ w.heap.size ∧ g ≠ N ∧ w.heap.size < g) := KX3.out.apart (by decide) Pg
  go_upto_region 9 with fail
  refine wp_region_G (fun w' => w'.cell? ⟨N, 3, none⟩ = some (.slice (some ⟨g, 0, none⟩) y.hn hh) ∧ w'.cell? ⟨g, p, none⟩ = some (.slice ua (y.hL p) uc)) (fun i => i == 18) (by kernel_rfl) ?_
  have hHeld := And.intro hN3 cg
  refine wpGT_of [0, 1, 2, 3, 4, 5, 6, 7, 8, 10, 12] ?_
  iterate 11 (refine wpGT_take rfl hHeld ?_; apply Exists.intro; refine ⟨fun wq hSw => ?_, ?_⟩; (· ((try dsimp only at hSw); go_simp; try with_reducible rfl)); (try simp only [Act.put, List.setIfInBounds_toArray, List.set_cons_zero, List.set_cons_succ]))
  refine wpGT_nil ?_
  refine wpG_one 9 rfl (by kernel_rfl) (fun K hK => ?_)
  refine stepR_call rfl 51 _ _ rfl #[.pointer (some ⟨c, 0, none⟩), .int .i64 5] (by simp [Act.eval]) (run_enter Tryz.func51 (by kernel_rfl) rfl) (l1Below_any W0 c len cap a0 5 w3.drew KX3.out.cu.drew (by omega) (by omega)) ?_
  rintro e w4 ⟨k1, rfl, -, hc9, hg9⟩
  refine ⟨_, rfl, ?_⟩
  have hg9' : w3.grownBy w4 (some c) := ⟨hg9.os, hg9.tape, hg9.output, hg9.size, hg9.block⟩
  have KX4 : Hid (KX w w4 W0 c a0 len cap N B T col y (.slice pa y.pn pc) (.slice sa y.sn sc) (.slice wa y.wn wc) (.slice (some ⟨g, 0, none⟩) y.hn hh) up us uw uh) := KX3.out.draw hc9 hg9'
  have hHeld := And.intro KX4.out.b5.bx.2.2.2 ((World.cell?_of_block (hg9'.block g lg (by have := AP.out; simp; omega))).trans hHeld.2)
  have lg4 : g < w4.heap.size := Nat.lt_of_lt_of_le lg hg9'.size
  refine hK.out _ _ (fun _ => hHeld) ?_
  clear hc9 hg9 hg9'
  clear hK K
  (try simp only [Act.put, List.setIfInBounds_toArray, List.set_cons_zero, List.set_cons_succ])
  refine wpG_one 11 rfl (by kernel_rfl) (fun K hK => ?_)
  refine stepR_call rfl 51 _ _ rfl #[.pointer (some ⟨c, 0, none⟩), .int .i64 3] (by simp [Act.eval]) (run_enter Tryz.func51 (by kernel_rfl) rfl) (l1Below_any W0 c len cap a0 3 w4 KX4.out.cu (by omega) (by omega)) ?_
  rintro e w5 ⟨k2, rfl, -, hc9, hg9⟩
  refine ⟨_, rfl, ?_⟩
  have hg9' : w4.grownBy w5 (some c) := ⟨hg9.os, hg9.tape, hg9.output, hg9.size, hg9.block⟩
  have KX5 : Hid (KX w w5 W0 c a0 len cap N B T col y (.slice pa y.pn pc) (.slice sa y.sn sc) (.slice wa y.wn wc) (.slice (some ⟨g, 0, none⟩) y.hn hh) up us uw uh) := KX4.out.draw hc9 hg9'
  have hHeld := And.intro KX5.out.b5.bx.2.2.2 ((World.cell?_of_block (hg9'.block g lg4 (by have := AP.out; simp; omega))).trans hHeld.2)
  have lg5 : g < w5.heap.size := Nat.lt_of_lt_of_le lg4 hg9'.size
  refine hK.out _ _ (fun _ => hHeld) ?_
  clear hc9 hg9 hg9'
  clear hK K
  (try simp only [Act.put, List.setIfInBounds_toArray, List.set_cons_zero, List.set_cons_succ])
  refine wpG_one 13 rfl (by kernel_rfl) (fun K hK => ?_)
  refine stepR_call rfl 51 _ _ rfl #[.pointer (some ⟨c, 0, none⟩), .int .i64 4] (by simp [Act.eval]) (run_enter Tryz.func51 (by kernel_rfl) rfl) (l1Below_any W0 c len cap a0 4 w5 KX5.out.cu (by omega) (by omega)) ?_
  rintro e w6 ⟨k3, rfl, -, hc9, hg9⟩
  refine ⟨_, rfl, ?_⟩
  have hg9' : w5.grownBy w6 (some c) := ⟨hg9.os, hg9.tape, hg9.output, hg9.size, hg9.block⟩
  have KX6 : Hid (KX w w6 W0 c a0 len cap N B T col y (.slice pa y.pn pc) (.slice sa y.sn sc) (.slice wa y.wn wc) (.slice (some ⟨g, 0, none⟩) y.hn hh) up us uw uh) := KX5.out.draw hc9 hg9'
  have hHeld := And.intro KX6.out.b5.bx.2.2.2 ((World.cell?_of_block (hg9'.block g lg5 (by have := AP.out; simp; omega))).trans hHeld.2)
  have lg6 : g < w6.heap.size := Nat.lt_of_lt_of_le lg5 hg9'.size
  refine hK.out _ _ (fun _ => hHeld) ?_
  clear hc9 hg9 hg9'
  clear hK K
  (try simp only [Act.put, List.setIfInBounds_toArray, List.set_cons_zero, List.set_cons_succ])
  refine wpG_take 14 rfl hHeld ?_
  apply Exists.intro
  refine ⟨fun wq hSw => ?_, ?_⟩
  ·(try dsimp only at hSw)
   go_simp
   try with_reducible rfl
  (try simp only [Act.put, List.setIfInBounds_toArray, List.set_cons_zero, List.set_cons_succ])
  refine wpG_one 15 rfl (by kernel_rfl) (fun K hK => ?_)
  go_simp
  have hca := (bcell (below_allocL w6 (oQ1 k1 k2 k3))).1
  refine hK.out _ _ (fun _ => ⟨(hca _ _ KX6.out.b5.lt).trans hHeld.1, (hca _ _ lg6).trans hHeld.2⟩) ?_
  clear hca
  clear hK K
  (try simp only [Act.put, List.setIfInBounds_toArray, List.set_cons_zero, List.set_cons_succ])
  refine wpG_one 16 rfl (by kernel_rfl) (fun K hK => ?_)
  have OH2 : w6.ownsRow 0 91 3 (.slice ua (y.hL p) uc) (y.hL p) (fE (y.hH p) (y.hL p)) := by
   have := KX6.out.ow.h.own p hph
   rw [eu] at this
   exact this
  refine stepR_append_val kndE w6 rfl rfl _ _ rfl 0 (.slice ua (y.hL p) uc) (y.hL p) _ rfl OH2 #[.int .i64 k1, .int .i64 k2, .int .i64 k3] rfl rfl (by intro u hu; simp at hu; rcases hu with rfl | rfl | rfl <;> rfl) (by omega) (Nat.zero_le _) ?_
  intro v8 w8 o8 g8 q8 n8
  obtain ⟨a8, c8, rfl⟩ := ownsRow_slice o8
  have hob : ∀ k, (Value.slice ua (y.hL p) uc).ownBlock = some k → Cl B col 4 k := fun k hk => KX6.out.ow.h.ob p hph k (by rw [eu]; exact hk)
  have hgne : (Value.slice ua (y.hL p) uc).ownBlock ≠ some g := fun e => KX6.out.ow.h.ra p hph g (by rw [eu]; exact e) rfl
  have hb8 : ∀ k, k < w6.heap.size → (Value.slice ua (y.hL p) uc).ownBlock ≠ some k → w8.heap[k]? = w6.heap[k]? := fun k h1 h2 => g8.block k h1 fun e => h2 e.symm
  have hap : ∀ k, (Value.slice ua (y.hL p) uc).ownBlock = some k → k ≠ c ∧ k ≠ w.heap.size ∧ k ≠ N ∧ w.heap.size < k := fun k hk => KX6.out.apart (by decide) (hob k hk)
  have hHeld := And.intro ((World.cell?_of_block (hb8 N KX6.out.b5.lt (fun e => (hap N e).2.2.1 rfl))).trans hHeld.1) ((World.cell?_of_block (hb8 g lg6 hgne)).trans hHeld.2)
  have hfg : w8.frozen? ⟨g, p, none⟩ = false := by
   obtain ⟨g', cap', e', -, -, -, fr'⟩ := KX6.out.ow.h.cell hph
   simp only [Value.slice.injEq, Option.some.injEq, Addr.mk.injEq, and_true, true_and] at e'
   rw [World.frozen?_of_block (hb8 g lg6 hgne), e'.1]
   exact fr' p
  have SZ : Hid (SysT (w8.setCell ⟨g, p, none⟩ (.slice a8 (y.hL p + 1) c8)) B w8.heap.size (y.setH p (y.hL p + 1) (fun i => if i = y.hL p then ⟨k1, k2, k3⟩ else y.hH p i)) (sysV pa y.pn pc sa y.sn sc wa y.wn wc (some ⟨g, 0, none⟩) y.hn hh)) := by
   have h := OwnS.putH KX6.out.ow hph (u' := .slice a8 (y.hL p + 1) c8) (m := y.hL p + 1) (H' := fun i => if i = y.hL p then ⟨k1, k2, k3⟩ else y.hH p i) (w1 := w8) (by have h1 : B ≤ g := Pg.1; omega) g8.size (fun k h1 h2 => hb8 k h1 (by rw [eu] at h2; exact h2)) (by rw [fE_push]; exact o8) n8 (fun k hk => (q8 k hk).imp (fun h => by rw [eu]; exact h) id)
   have h2 := h.sysT
   rw [World.size_setCell] at h2
   exact h2
  have KZ : Hid (Cur (w8.setCell ⟨g, p, none⟩ (.slice a8 (y.hL p + 1) c8)) W0 c a0 len cap ∧ w.grownBy (w8.setCell ⟨g, p, none⟩ (.slice a8 (y.hL p + 1) c8)) (some c) ∧ Bx (w8.setCell ⟨g, p, none⟩ (.slice a8 (y.hL p + 1) c8)) w.heap.size (.slice none 0 0) (.slice none 0 0) (.slice none 0 0) (.slice none 0 0) ∧ Bx (w8.setCell ⟨g, p, none⟩ (.slice a8 (y.hL p + 1) c8)) N (.slice pa y.pn pc) (.slice sa y.sn sc) (.slice wa y.wn wc) (.slice (some ⟨g, 0, none⟩) y.hn hh)) := by
   have hgg : w8.grownBy (w8.setCell ⟨g, p, none⟩ (.slice a8 (y.hL p + 1) c8)) (some g) := grown_setCell (World.grownBy.refl _ _) (.inl rfl) _
   have hA := AP.out
   have hW := KX6.out.cu.ge
   refine ⟨(KX6.out.cu.kept g8 (fun e => (hap c e.symm).1 rfl) (fun k hk => by have := hap k hk; omega)).kept hgg (fun e => hA.1 (by simpa using e.symm)) (fun k hk => by cases hk; omega), (KX6.out.gr.andThen g8 (fun k hk => .inl (by have := hap k hk; omega))).andThen hgg (fun k hk => by cases hk; exact .inl (by omega)), (KX6.out.b4.grown g8 (fun e => (hap _ e).2.1 rfl)).set (by omega), (KX6.out.b5.grown g8 (fun e => (hap _ e).2.2.1 rfl)).set (by omega)⟩
  refine hK.out _ _ (fun _ => hHeld) ?_
  clear o8 g8 q8 n8 hb8
  clear hK K
  (try simp only [Act.put, List.setIfInBounds_toArray, List.set_cons_zero, List.set_cons_succ])
  refine wpG_take 17 rfl hHeld ?_
  apply Exists.intro
  refine ⟨fun wq hSw => ?_, ?_⟩
  ·(try dsimp only at hSw)
   go_simp
   try with_reducible rfl
  (try simp only [Act.put, List.setIfInBounds_toArray, List.set_cons_zero, List.set_cons_succ])
  refine wpG_one 18 rfl (by kernel_rfl) (fun K hK => ?_)
  have hcN := hHeld.2
  go_simp
  refine hK.out _ _ (fun h => ?_) ?_
  ·exact absurd h (by decide)
  clear hK K
  (try simp only [Act.put, List.setIfInBounds_toArray, List.set_cons_zero, List.set_cons_succ])
  refine wpG_done (by kernel_rfl) ?_ _
  have SM : Hid (y.setH p (y.hL p + 1) (fun i => if i = y.hL p then ⟨k1, k2, k3⟩ else y.hH p i)).Sm := by
   have hm := HO.out.sm
   refine ⟨hm.n, hm.p, hm.s, hm.w, fun i hi => ?_⟩
   show (if i = p then y.hL p + 1 else y.hL i) ≤ 1000
   by_cases ei : i = p
   ·rw [if_pos ei]; omega
   ·rw [if_neg ei]; exact hm.h i hi
  have hTz : w8.heap.size ≤ (w8.setCell ⟨g, p, none⟩ (.slice a8 (y.hL p + 1) c8)).heap.size := by simp
  generalize w8.setCell ⟨g, p, none⟩ (.slice a8 (y.hL p + 1) c8) = wz at *
  obtain ⟨⟨r0, r1, r2, r3⟩, rf⟩ := KZ.out.2.2.1
  obtain ⟨⟨b0, b1, b2, b3⟩, -⟩ := KZ.out.2.2.2
  have hsz := KX3.out.sz
  have hW := KX3.out.cu.ge
  clear hHeld
  go_wp2
  obtain ⟨x, ev, ey, hX⟩ := SZ.out.x
  refine bodyPost_ret (v := (sysV pa y.pn pc sa y.sn sc wa y.wn wc (some ⟨g, 0, none⟩) y.hn hh)) (by simp [results, Tryz.results50, go_sem, r0, r1, r2, r3]) rfl ?_
  rw [show (sysV pa y.pn pc sa y.sn sc wa y.wn wc (some ⟨g, 0, none⟩) y.hn hh) = x.v from ev]
  exact DrwS.fin hX (by rw [ey]; exact SM.out) KZ.out.1 KZ.out.2.1 (by omega) (by omega) (Nat.le_refl _) (by omega) (by omega) hTz _ _ _ _
 have t1 : (jj == 1) = false := by simpa using e1
 by_cases e2 : jj = 2
 ·subst e2
  clear t0 e0 t1 e1
  obtain ⟨col, vp, vs, vw, vh, up, us, uw, uh, ev, o, ht⟩ := KC.out.1.sy
  obtain ⟨rfl, rfl, rfl, rfl⟩ := sysV_inj ev
  have hsn : y.sn = y.pn := HO.out.cn.2.1
  have hhn : y.hn = y.pn := HO.out.cn.2.2.1
  have hph : p < y.hn := by omega
  have hph' : (p : Int) < (y.hn : Int) := by omega
  clear hsn hhn
  have KX3 : Hid (KX w w3 W0 c a0 len cap N B T col y (.slice pa y.pn pc) (.slice sa y.sn sc) (.slice wa y.wn wc) (.slice ha y.hn hh) up us uw uh) := ⟨KC.out.1.cu, KC.out.1.gr, o, KC.out.2.1, KC.out.2.2, ht, hcl, HS.out.1, HS.out.2.1, HS.out.2.2⟩
  clear o ht ev KC
  have hw1 : 1 ≤ y.wn ∧ y.wn ≤ 16 := by
   obtain ⟨⟨h1, h4⟩, -, -, hw⟩ := HO.out.cn
   rw [hw]
   exact ⟨Nat.mul_le_mul h1 h1, Nat.le_trans (Nat.mul_le_mul h4 h4) (by omega)⟩
  have b2 := KX3.out.b5.bx.2.2.1
  go_wp2_with fail
  refine (l1Below_any W0 c len cap a0 (y.wn : Nat) w3 KX3.out.cu (by omega) (by omega)).mono ?_
  rintro e w4 ⟨ii, rfl, ⟨i0, i1⟩, hc4, hg4⟩
  have KX4 : Hid (KX w w4 W0 c a0 len cap N B T col y (.slice pa y.pn pc) (.slice sa y.sn sc) (.slice wa y.wn wc) (.slice ha y.hn hh) up us uw uh) := KX3.out.draw hc4 hg4
  clear hc4 hg4 b2
  obtain ⟨iw, rfl⟩ : ∃ iw : Nat, ii = iw := ⟨ii.toNat, by omega⟩
  have hiw : iw < y.wn := by omega
  have hiw' : (iw : Int) < (y.wn : Int) := by omega
  have hlw : y.wL iw ≤ 12 := HO.out.bds.2.2.1 iw hiw
  obtain ⟨g, cww, eh, Pg, lg, cg, fg⟩ := KX4.out.ow.t.cell hiw
  simp only [Value.slice.injEq] at eh
  obtain ⟨rfl, -, rfl⟩ := eh
  obtain ⟨ua, uc, eu⟩ := ownsRow_slice (KX4.out.ow.t.own iw hiw)
  rw [eu] at cg
  have hN3 := KX4.out.b5.bx.2.2.1
  have AP : Hid (g ≠ c ∧ g ≠ w.heap.size ∧ g ≠ N ∧ w.heap.size < g) := KX4.out.apart (by decide) Pg
  go_upto_region 12 with fail
  refine wp_region_G (fun w' => w'.cell? ⟨N, 2, none⟩ = some (.slice (some ⟨g, 0, none⟩) y.wn wc) ∧ w'.cell? ⟨g, iw, none⟩ = some (.slice ua (y.wL iw) uc)) (fun i => i == 16) (by kernel_rfl) ?_
  have hHeld := And.intro hN3 cg
  refine wpGT_of [0, 1, 2, 3, 4, 5, 6, 7, 8, 10] ?_
  iterate 10 (refine wpGT_take rfl hHeld ?_; apply Exists.intro; refine ⟨fun wq hSw => ?_, ?_⟩; (· ((try dsimp only at hSw); go_simp; try with_reducible rfl)); (try simp only [Act.put, List.setIfInBounds_toArray, List.set_cons_zero, List.set_cons_succ]))
  refine wpGT_nil ?_
  refine wpG_one 9 rfl (by kernel_rfl) (fun K hK => ?_)
  refine stepR_call rfl 67 _ _ rfl #[.pointer (some ⟨c, 0, none⟩), .int .i64 2] (by simp [Act.eval]) (run_enter Tryz.func67 (by kernel_rfl) rfl) (l1Once_any W0 c len cap a0 2 w4.drew KX4.out.cu.drew (by omega) (by omega)) ?_
  rintro e w5 ⟨k1, rfl, hc9, hg9⟩
  refine ⟨_, rfl, ?_⟩
  have hg9' : w4.grownBy w5 (some c) := ⟨hg9.os, hg9.tape, hg9.output, hg9.size, hg9.block⟩
  have KX5 : Hid (KX w w5 W0 c a0 len cap N B T col y (.slice pa y.pn pc) (.slice sa y.sn sc) (.slice (some ⟨g, 0, none⟩) y.wn wc) (.slice ha y.hn hh) up us uw uh) := KX4.out.draw hc9 hg9'
  have hHeld := And.intro KX5.out.b5.bx.2.2.1 ((World.cell?_of_block (hg9'.block g lg (by have := AP.out; simp; omega))).trans hHeld.2)
  have lg5 : g < w5.heap.size := Nat.lt_of_lt_of_le lg hg9'.size
  refine hK.out _ _ (fun _ => hHeld) ?_
  clear hc9 hg9 hg9'
  clear hK K
  (try simp only [Act.put, List.setIfInBounds_toArray, List.set_cons_zero, List.set_cons_succ])
  refine wpG_one 11 rfl (by kernel_rfl) (fun K hK => ?_)
  refine stepR_call rfl 51 _ _ rfl #[.pointer (some ⟨c, 0, none⟩), .int .i64 2] (by simp [Act.eval]) (run_enter Tryz.func51 (by kernel_rfl) rfl) (l1Below_any W0 c len cap a0 2 w5 KX5.out.cu (by omega) (by omega)) ?_
  rintro e w6 ⟨k2, rfl, -, hc9, hg9⟩
  refine ⟨_, rfl, ?_⟩
  have hg9' : w5.grownBy w6 (some c) := ⟨hg9.os, hg9.tape, hg9.output, hg9.size, hg9.block⟩
  have KX6 : Hid (KX w w6 W0 c a0 len cap N B T col y (.slice pa y.pn pc) (.slice sa y.sn sc) (.slice (some ⟨g, 0, none⟩) y.wn wc) (.slice ha y.hn hh) up us uw uh) := KX5.out.draw hc9 hg9'
  have hHeld := And.intro KX6.out.b5.bx.2.2.1 ((World.cell?_of_block (hg9'.block g lg5 (by have := AP.out; simp; omega))).trans hHeld.2)
  have lg6 : g < w6.heap.size := Nat.lt_of_lt_of_le lg5 hg9'.size
  refine hK.out _ _ (fun _ => hHeld) ?_
  clear hc9 hg9 hg9'
  clear hK K
  (try simp only [Act.put, List.setIfInBounds_toArray, List.set_cons_zero, List.set_cons_succ])
  refine wpG_take 12 rfl hHeld ?_
  apply Exists.intro
  refine ⟨fun wq hSw => ?_, ?_⟩
  ·(try dsimp only at hSw)
   go_simp
   try with_reducible rfl
  (try simp only [Act.put, List.setIfInBounds_toArray, List.set_cons_zero, List.set_cons_succ])
  refine wpG_one 13 rfl (by kernel_rfl) (fun K hK => ?_)
  go_simp
  have hca := (bcell (below_allocL w6 (.cells #[.bool k1, .int .i64 k2] 75))).1
  refine hK.out _ _ (fun _ => ⟨(hca _ _ KX6.out.b5.lt).trans hHeld.1, (hca _ _ lg6).trans hHeld.2⟩) ?_
  clear hca
  clear hK K
  (try simp only [Act.put, List.setIfInBounds_toArray, List.set_cons_zero, List.set_cons_succ])
  refine wpG_one 14 rfl (by kernel_rfl) (fun K hK => ?_)
  have OH2 : w6.ownsRow 0 75 2 (.slice ua (y.wL iw) uc) (y.wL iw) (fT (y.wH iw) (y.wL iw)) := by
   have := KX6.out.ow.t.own iw hiw
   rw [eu] at this
   exact this
  refine stepR_append_val kndT w6 rfl rfl _ _ rfl 0 (.slice ua (y.wL iw) uc) (y.wL iw) _ rfl OH2 #[.bool k1, .int .i64 k2] rfl rfl (by intro u hu; simp at hu; rcases hu with rfl | rfl <;> rfl) (by omega) (Nat.zero_le _) ?_
  intro v8 w8 o8 g8 q8 n8
  obtain ⟨a8, c8, rfl⟩ := ownsRow_slice o8
  have hob : ∀ k, (Value.slice ua (y.wL iw) uc).ownBlock = some k → Cl B col 3 k := fun k hk => KX6.out.ow.t.ob iw hiw k (by rw [eu]; exact hk)
  have hgne : (Value.slice ua (y.wL iw) uc).ownBlock ≠ some g := fun e => KX6.out.ow.t.ra iw hiw g (by rw [eu]; exact e) rfl
  have hb8 : ∀ k, k < w6.heap.size → (Value.slice ua (y.wL iw) uc).ownBlock ≠ some k → w8.heap[k]? = w6.heap[k]? := fun k h1 h2 => g8.block k h1 fun e => h2 e.symm
  have hap : ∀ k, (Value.slice ua (y.wL iw) uc).ownBlock = some k → k ≠ c ∧ k ≠ w.heap.size ∧ k ≠ N ∧ w.heap.size < k := fun k hk => KX6.out.apart (by decide) (hob k hk)
  have hHeld := And.intro ((World.cell?_of_block (hb8 N KX6.out.b5.lt (fun e => (hap N e).2.2.1 rfl))).trans hHeld.1) ((World.cell?_of_block (hb8 g lg6 hgne)).trans hHeld.2)
  have hfg : w8.frozen? ⟨g, iw, none⟩ = false := by
   obtain ⟨g', cap', e', -, -, -, fr'⟩ := KX6.out.ow.t.cell hiw
   simp only [Value.slice.injEq, Option.some.injEq, Addr.mk.injEq, and_true, true_and] at e'
   rw [World.frozen?_of_block (hb8 g lg6 hgne), e'.1]
   exact fr' iw
  have SZ : Hid (SysT (w8.setCell ⟨g, iw, none⟩ (.slice a8 (y.wL iw + 1) c8)) B w8.heap.size (y.setW iw (y.wL iw + 1) (fun i => if i = y.wL iw then ⟨k1, k2⟩ else y.wH iw i)) (sysV pa y.pn pc sa y.sn sc (some ⟨g, 0, none⟩) y.wn wc ha y.hn hh)) := by
   have h := OwnS.putW KX6.out.ow hiw (u' := .slice a8 (y.wL iw + 1) c8) (m := y.wL iw + 1) (H' := fun i => if i = y.wL iw then ⟨k1, k2⟩ else y.wH iw i) (w1 := w8) (by have h1 : B ≤ g := Pg.1; omega) g8.size (fun k h1 h2 => hb8 k h1 (by rw [eu] at h2; exact h2)) (by rw [fT_push]; exact o8) n8 (fun k hk => (q8 k hk).imp (fun h => by rw [eu]; exact h) id)
   have h2 := h.sysT
   rw [World.size_setCell] at h2
   exact h2
  have KZ : Hid (Cur (w8.setCell ⟨g, iw, none⟩ (.slice a8 (y.wL iw + 1) c8)) W0 c a0 len cap ∧ w.grownBy (w8.setCell ⟨g, iw, none⟩ (.slice a8 (y.wL iw + 1) c8)) (some c) ∧ Bx (w8.setCell ⟨g, iw, none⟩ (.slice a8 (y.wL iw + 1) c8)) w.heap.size (.slice none 0 0) (.slice none 0 0) (.slice none 0 0) (.slice none 0 0) ∧ Bx (w8.setCell ⟨g, iw, none⟩ (.slice a8 (y.wL iw + 1) c8)) N (.slice pa y.pn pc) (.slice sa y.sn sc) (.slice (some ⟨g, 0, none⟩) y.wn wc) (.slice ha y.hn hh)) := by
   have hgg : w8.grownBy (w8.setCell ⟨g, iw, none⟩ (.slice a8 (y.wL iw + 1) c8)) (some g) := grown_setCell (World.grownBy.refl _ _) (.inl rfl) _
   have hA := AP.out
   have hW := KX6.out.cu.ge
   refine ⟨(KX6.out.cu.kept g8 (fun e => (hap c e.symm).1 rfl) (fun k hk => by have := hap k hk; omega)).kept hgg (fun e => hA.1 (by simpa using e.symm)) (fun k hk => by cases hk; omega), (KX6.out.gr.andThen g8 (fun k hk => .inl (by have := hap k hk; omega))).andThen hgg (fun k hk => by cases hk; exact .inl (by omega)), (KX6.out.b4.grown g8 (fun e => (hap _ e).2.1 rfl)).set (by omega), (KX6.out.b5.grown g8 (fun e => (hap _ e).2.2.1 rfl)).set (by omega)⟩
  refine hK.out _ _ (fun _ => hHeld) ?_
  clear o8 g8 q8 n8 hb8
  clear hK K
  (try simp only [Act.put, List.setIfInBounds_toArray, List.set_cons_zero, List.set_cons_succ])
  refine wpG_take 15 rfl hHeld ?_
  apply Exists.intro
  refine ⟨fun wq hSw => ?_, ?_⟩
  ·(try dsimp only at hSw)
   go_simp
   try with_reducible rfl
  (try simp only [Act.put, List.setIfInBounds_toArray, List.set_cons_zero, List.set_cons_succ])
  refine wpG_one 16 rfl (by kernel_rfl) (fun K hK => ?_)
  have hcN := hHeld.2
  go_simp
  refine hK.out _ _ (fun h => ?_) ?_
  ·exact absurd h (by decide)
  clear hK K
  (try simp only [Act.put, List.setIfInBounds_toArray, List.set_cons_zero, List.set_cons_succ])
  refine wpG_done (by kernel_rfl) ?_ _
  have SM : Hid (y.setW iw (y.wL iw + 1) (fun i => if i = y.wL iw then ⟨k1, k2⟩ else y.wH iw i)).Sm := by
   have hm := HO.out.sm
   have hb := HO.out.bds.2.2.1 iw hiw
   refine ⟨hm.n, hm.p, hm.s, fun i hi => ?_, hm.h⟩
   show (if i = iw then y.wL iw + 1 else y.wL i) ≤ 1000
   by_cases ei : i = iw
   ·rw [if_pos ei]; omega
   ·rw [if_neg ei]; exact hm.w i hi
  have hTz : w8.heap.size ≤ (w8.setCell ⟨g, iw, none⟩ (.slice a8 (y.wL iw + 1) c8)).heap.size := by simp
  generalize w8.setCell ⟨g, iw, none⟩ (.slice a8 (y.wL iw + 1) c8) = wz at *
  obtain ⟨⟨r0, r1, r2, r3⟩, rf⟩ := KZ.out.2.2.1
  obtain ⟨⟨b0, b1, b2, b3⟩, -⟩ := KZ.out.2.2.2
  have hsz := KX3.out.sz
  have hW := KX3.out.cu.ge
  clear hHeld
  go_wp2
  obtain ⟨x, ev, ey, hX⟩ := SZ.out.x
  refine bodyPost_ret (v := (sysV pa y.pn pc sa y.sn sc (some ⟨g, 0, none⟩) y.wn wc ha y.hn hh)) (by simp [results, Tryz.results50, go_sem, r0, r1, r2, r3]) rfl ?_
  rw [show (sysV pa y.pn pc sa y.sn sc (some ⟨g, 0, none⟩) y.wn wc ha y.hn hh) = x.v from ev]
  exact DrwS.fin hX (by rw [ey]; exact SM.out) KZ.out.1 KZ.out.2.1 (by omega) (by omega) (Nat.le_refl _) (by omega) (by omega) hTz _ _ _ _
 have t2 : (jj == 2) = false := by simpa using e2
 by_cases e3 : jj = 3
 ·subst e3
  clear t0 e0 t1 e1 t2 e2
  obtain ⟨col, vp, vs, vw, vh, up, us, uw, uh, ev, o, ht⟩ := KC.out.1.sy
  obtain ⟨rfl, rfl, rfl, rfl⟩ := sysV_inj ev
  have hsn : y.sn = y.pn := HO.out.cn.2.1
  have hhn : y.hn = y.pn := HO.out.cn.2.2.1
  have hph : p < y.hn := by omega
  have hph' : (p : Int) < (y.hn : Int) := by omega
  clear hsn hhn
  have KX3 : Hid (KX w w3 W0 c a0 len cap N B T col y (.slice pa y.pn pc) (.slice sa y.sn sc) (.slice wa y.wn wc) (.slice ha y.hn hh) up us uw uh) := ⟨KC.out.1.cu, KC.out.1.gr, o, KC.out.2.1, KC.out.2.2, ht, hcl, HS.out.1, HS.out.2.1, HS.out.2.2⟩
  clear o ht ev KC
  have hw1 : 1 ≤ y.wn ∧ y.wn ≤ 16 := by
   obtain ⟨⟨h1, h4⟩, -, -, hw⟩ := HO.out.cn
   rw [hw]
   exact ⟨Nat.mul_le_mul h1 h1, Nat.le_trans (Nat.mul_le_mul h4 h4) (by omega)⟩
  have hw1' : (1 : Int) ≤ (y.wn : Int) := by omega
  obtain ⟨g, cww, eh, Pg, lg, -, -⟩ := KX3.out.ow.t.cell (i := 0) (by omega)
  have hcap : y.wn ≤ wc := cap_own KX3.out.ow.t.row
  simp only [Value.slice.injEq] at eh
  obtain ⟨rfl, -, rfl⟩ := eh
  have hcap' : (1 : Int) ≤ (wc : Int) := by omega
  have hcp2 : ¬ (wc : Int) < 1 := by omega
  obtain ⟨⟨r0, r1, r2, r3⟩, rf⟩ := KX3.out.b4
  obtain ⟨⟨b0, b1, b2, b3⟩, bf⟩ := KX3.out.b5
  go_upto_region 20 with fail
  have hA : y.wn ≤ 1 ∨ (if wc = 1 then (some ⟨g, 0, none⟩ : Option Addr) else some ⟨g, 1, none⟩) = some ⟨g, 1, none⟩ := by
   by_cases h : wc = 1
   ·exact .inl (by omega)
   ·exact .inr (if_neg h)
  generalize (if wc = 1 then (some ⟨g, 0, none⟩ : Option Addr) else some ⟨g, 1, none⟩) = A at *
  have hsz := KX3.out.sz
  have hW := KX3.out.cu.ge
  have KZ : Hid (Cur (w3.setCell ⟨N, 2, none⟩ (.slice A (y.wn - 1) (wc - 1))) W0 c a0 len cap ∧ w.grownBy (w3.setCell ⟨N, 2, none⟩ (.slice A (y.wn - 1) (wc - 1))) (some c) ∧ Bx (w3.setCell ⟨N, 2, none⟩ (.slice A (y.wn - 1) (wc - 1))) w.heap.size (.slice none 0 0) (.slice none 0 0) (.slice none 0 0) (.slice none 0 0) ∧ BoxC (w3.setCell ⟨N, 2, none⟩ (.slice A (y.wn - 1) (wc - 1))) N (.slice pa y.pn pc) (.slice sa y.sn sc) (.slice A (y.wn - 1) (wc - 1)) (.slice ha y.hn hh)) := by
   have hgg : w3.grownBy (w3.setCell ⟨N, 2, none⟩ (.slice A (y.wn - 1) (wc - 1))) (some N) := grown_setCell (World.grownBy.refl _ _) (.inl rfl) _
   exact ⟨KX3.out.cu.kept hgg (fun e => by simp at e; omega) (fun k hk => by cases hk; omega), KX3.out.gr.andThen hgg (fun k hk => by cases hk; exact .inl (by omega)), KX3.out.b4.set (by omega), ⟨by go_cell, by go_cell, by go_cell, by go_cell⟩⟩
  have SX : Hid (∃ x : SysIn, sysV pa y.pn pc sa y.sn sc A (y.wn - 1) (wc - 1) ha y.hn hh = x.v ∧ x.y.Sm ∧ SysX (w3.setCell ⟨N, 2, none⟩ (.slice A (y.wn - 1) (wc - 1))) B T x) := by
   have st : SysT w3 B T y (sysV pa y.pn pc sa y.sn sc (some ⟨g, 0, none⟩) y.wn wc ha y.hn hh) := ⟨col, _, _, _, _, up, us, uw, uh, rfl, KX3.out.ow, KX3.out.tp⟩
   obtain ⟨x, ev, ey, hX⟩ := st.x
   have ev' := ev
   simp only [sysV, Value.agg.injEq, Array.mk.injEq, List.cons.injEq, Value.slice.injEq, and_true] at ev'
   obtain ⟨⟨a1, a2, a3⟩, ⟨a4, a5, a6⟩, ⟨a7, a8, a9⟩, ⟨a10, a11, a12⟩⟩ := ev'
   refine ⟨x.shift A (wc - 1), ?_, ?_, (hX.keep (by simp) fun b h1 h2 _ => Below.heap_setCell _ _ _ _ (fun e => by have e2 : b = N := e; omega)).shift a7.symm (hA.imp (fun h => by rw [← a8]; exact h) id)⟩
   ·show _ = sysV x.pa x.pn x.pc x.sa x.sn x.sc A (x.wn - 1) (wc - 1) x.ha x.hn x.hc
    rw [← a1, ← a2, ← a3, ← a4, ← a5, ← a6, ← a8, ← a10, ← a11, ← a12]
   ·have hm := HO.out.sm
    rw [← ey] at hm
    refine ⟨⟨hm.n.1, hm.n.2.1, by have h1 : x.wn ≤ 16 := hm.n.2.2.1; show x.wn - 1 ≤ 16; omega, hm.n.2.2.2⟩, hm.p, hm.s, fun i hi => hm.w (i + 1) (by have h1 : i < x.wn - 1 := hi; show i + 1 < x.wn; omega), hm.h⟩
  have hTz : T ≤ (w3.setCell ⟨N, 2, none⟩ (.slice A (y.wn - 1) (wc - 1))).heap.size := by
   have := World.block_lt_of_cell? w3 _ b0
   simp at this ⊢
   omega
  clear r0 r1 r2 r3 rf b0 b1 b2 b3 bf
  generalize y.wn - 1 = wn1 at *
  generalize wc - 1 = wc1 at *
  generalize w3.setCell ⟨N, 2, none⟩ (.slice A wn1 wc1) = wz at *
  obtain ⟨⟨r0, r1, r2, r3⟩, rf⟩ := KZ.out.2.2.1
  obtain ⟨b0, b1, b2, b3⟩ := KZ.out.2.2.2
  go_wp2
  obtain ⟨x, ev, hm, hX⟩ := SX.out
  refine bodyPost_ret (v := sysV pa y.pn pc sa y.sn sc A wn1 wc1 ha y.hn hh) (by simp [results, Tryz.results50, go_sem, r0, r1, r2, r3]) rfl ?_
  rw [show sysV pa y.pn pc sa y.sn sc A wn1 wc1 ha y.hn hh = x.v from ev]
  exact DrwS.fin hX hm KZ.out.1 KZ.out.2.1 (by omega) (by omega) (Nat.le_refl _) (by omega) (by omega) hTz _ _ _ _
 have t3 : (jj == 3) = false := by simpa using e3
 by_cases e4 : jj = 4
 ·subst e4
  clear t0 e0 t1 e1 t2 e2 t3 e3
  obtain ⟨col, vp, vs, vw, vh, up, us, uw, uh, ev, o, ht⟩ := KC.out.1.sy
  obtain ⟨rfl, rfl, rfl, rfl⟩ := sysV_inj ev
  have hsn : y.sn = y.pn := HO.out.cn.2.1
  have hhn : y.hn = y.pn := HO.out.cn.2.2.1
  have hph : p < y.hn := by omega
  have hph' : (p : Int) < (y.hn : Int) := by omega
  clear hsn hhn
  have KX3 : Hid (KX w w3 W0 c a0 len cap N B T col y (.slice pa y.pn pc) (.slice sa y.sn sc) (.slice wa y.wn wc) (.slice ha y.hn hh) up us uw uh) := ⟨KC.out.1.cu, KC.out.1.gr, o, KC.out.2.1, KC.out.2.2, ht, hcl, HS.out.1, HS.out.2.1, HS.out.2.2⟩
  clear o ht ev KC
  obtain ⟨g, cpp, eh, Pg, lg, cg, fg⟩ := KX3.out.ow.p.cell hpp
  simp only [Value.slice.injEq] at eh
  obtain ⟨rfl, -, rfl⟩ := eh
  have hpp' : (p : Int) < (y.pn : Int) := by omega
  have hN3 := KX3.out.b5.bx.1
  have AP : Hid (g ≠ c ∧ g ≠ w.heap.size ∧ g ≠ N ∧ w.heap.size < g) := KX3.out.apart (by decide) Pg
  go_upto_region 16 with fail
  refine wp_region_G (fun w' => w'.cell? ⟨N, 0, none⟩ = some (.slice (some ⟨g, 0, none⟩) y.pn pc) ∧ w'.cell? ⟨g, p, none⟩ = some (up p)) (fun i => i == 6) (by kernel_rfl) ?_
  have hHeld := And.intro hN3 cg
  refine wpGT_of [0, 1, 2, 3] ?_
  iterate 4 (refine wpGT_take rfl hHeld ?_; apply Exists.intro; refine ⟨fun wq hSw => ?_, ?_⟩; (· ((try dsimp only at hSw); go_simp; try with_reducible rfl)); (try simp only [Act.put, List.setIfInBounds_toArray, List.set_cons_zero, List.set_cons_succ]))
  refine wpGT_nil ?_
  refine wpG_one 4 rfl (by kernel_rfl) (fun K hK => ?_)
  refine stepR_call rfl 108 _ _ rfl #[.pointer (some ⟨c, 0, none⟩)] (by simp [Act.eval]) (run_enter Tryz.func108 (by kernel_rfl) rfl) (l1DrawAny_any W0 c len cap a0 w3.drew KX3.out.cu.drew) ?_
  rintro e w4 ⟨g4, m4, gc4, rfl, hm4, hl4, hc4, hg4⟩
  refine ⟨_, rfl, ?_⟩
  have hg9' : w3.grownBy w4 (some c) := ⟨hg4.os, hg4.tape, hg4.output, hg4.size, hg4.block⟩
  have KX4 : Hid (KX w w4 W0 c a0 len cap N B T col y (.slice (some ⟨g, 0, none⟩) y.pn pc) (.slice sa y.sn sc) (.slice wa y.wn wc) (.slice ha y.hn hh) up us uw uh) := KX3.out.draw hc4 hg9'
  have hHeld := And.intro KX4.out.b5.bx.1 ((World.cell?_of_block (hg9'.block g lg (by have := AP.out; simp; omega))).trans hHeld.2)
  have lg4 : g < w4.heap.size := Nat.lt_of_lt_of_le lg hg9'.size
  obtain ⟨G4, hG4⟩ := hl4.known
  have hfg : w4.frozen? ⟨g, p, none⟩ = false := by
   rw [World.frozen?_of_block (hg9'.block g lg (by have := AP.out; simp; omega))]
   exact fg p
  have hupc : ∃ ua uc, up p = .slice ua (y.pL p) uc := ownsRow_slice (KX3.out.ow.p.own p hpp)
  have SZ : Hid (SysT (w4.setCell ⟨g, p, none⟩ (.slice (some ⟨g4, 0, none⟩) m4 gc4)) B w4.heap.size (y.setP p m4 G4) (sysV (some ⟨g, 0, none⟩) y.pn pc sa y.sn sc wa y.wn wc ha y.hn hh)) := by
   have hs3 : w3.heap.size ≤ w4.heap.size := hg9'.size
   have ho : OwnS false (World.cut w4 w3.heap.size) B col y (.slice (some ⟨g, 0, none⟩) y.pn pc) (.slice sa y.sn sc) (.slice wa y.wn wc) (.slice ha y.hn hh) up us uw uh := KX3.out.ow.kept fun k hk hl => (cut_block w4 hs3 hl).trans (hg9'.block k hl (by have := KX3.out.sz; simp; omega))
   have h := OwnS.putP ho hpp (u' := .slice (some ⟨g4, 0, none⟩) m4 gc4) (m := m4) (H' := G4) (w1 := w4) (by rw [cut_size w4 hs3]; have h1 : B ≤ g := Pg.1; omega) (by rw [cut_size w4 hs3]; exact hs3) (fun k h1 _ => by rw [cut_size w4 hs3] at h1; exact (cut_block w4 hs3 h1).symm) (hG4.mono (Nat.zero_le _)) (fun e => by cases e) (fun k hk => .inr (by rw [cut_size w4 hs3]; exact (hG4.lt k hk).1))
   have h2 := h.sysT
   rw [World.size_setCell] at h2
   exact h2
  have KZ : Hid (Cur (w4.setCell ⟨g, p, none⟩ (.slice (some ⟨g4, 0, none⟩) m4 gc4)) W0 c a0 len cap ∧ w.grownBy (w4.setCell ⟨g, p, none⟩ (.slice (some ⟨g4, 0, none⟩) m4 gc4)) (some c) ∧ Bx (w4.setCell ⟨g, p, none⟩ (.slice (some ⟨g4, 0, none⟩) m4 gc4)) w.heap.size (.slice none 0 0) (.slice none 0 0) (.slice none 0 0) (.slice none 0 0) ∧ Bx (w4.setCell ⟨g, p, none⟩ (.slice (some ⟨g4, 0, none⟩) m4 gc4)) N (.slice (some ⟨g, 0, none⟩) y.pn pc) (.slice sa y.sn sc) (.slice wa y.wn wc) (.slice ha y.hn hh)) := by
   have hgg : w4.grownBy (w4.setCell ⟨g, p, none⟩ (.slice (some ⟨g4, 0, none⟩) m4 gc4)) (some g) := grown_setCell (World.grownBy.refl _ _) (.inl rfl) _
   have hA := AP.out
   have hW := KX4.out.cu.ge
   exact ⟨KX4.out.cu.kept hgg (fun e => hA.1 (by simpa using e.symm)) (fun k hk => by cases hk; omega), KX4.out.gr.andThen hgg (fun k hk => by cases hk; exact .inl (by omega)), KX4.out.b4.set (by omega), KX4.out.b5.set (by omega)⟩
  refine hK.out _ _ (fun _ => hHeld) ?_
  clear hc4 hg4 hg9' hl4 hG4
  clear hK K
  (try simp only [Act.put, List.setIfInBounds_toArray, List.set_cons_zero, List.set_cons_succ])
  refine wpG_take 5 rfl hHeld ?_
  apply Exists.intro
  refine ⟨fun wq hSw => ?_, ?_⟩
  ·(try dsimp only at hSw)
   go_simp
   try with_reducible rfl
  (try simp only [Act.put, List.setIfInBounds_toArray, List.set_cons_zero, List.set_cons_succ])
  refine wpG_one 6 rfl (by kernel_rfl) (fun K hK => ?_)
  have hcN := hHeld.2
  obtain ⟨ua, uc, eup⟩ := hupc
  rw [eup] at hcN
  go_simp
  refine hK.out _ _ (fun h => ?_) ?_
  ·exact absurd h (by decide)
  clear hK K
  (try simp only [Act.put, List.setIfInBounds_toArray, List.set_cons_zero, List.set_cons_succ])
  refine wpG_done (by kernel_rfl) ?_ _
  have SM : Hid (y.setP p m4 G4).Sm := by
   have hm := HO.out.sm
   refine ⟨hm.n, fun i hi => ?_, hm.s, hm.w, hm.h⟩
   show (if i = p then m4 else y.pL i) ≤ 1000
   by_cases ei : i = p
   ·rw [if_pos ei]; omega
   ·rw [if_neg ei]; exact hm.p i hi
  have hTz : w4.heap.size ≤ (w4.setCell ⟨g, p, none⟩ (.slice (some ⟨g4, 0, none⟩) m4 gc4)).heap.size := by simp
  generalize w4.setCell ⟨g, p, none⟩ (.slice (some ⟨g4, 0, none⟩) m4 gc4) = wz at *
  obtain ⟨⟨r0, r1, r2, r3⟩, rf⟩ := KZ.out.2.2.1
  obtain ⟨⟨b0, b1, b2, b3⟩, -⟩ := KZ.out.2.2.2
  have hsz := KX3.out.sz
  have hW := KX3.out.cu.ge
  clear hHeld
  go_wp2
  obtain ⟨x, ev, ey, hX⟩ := SZ.out.x
  refine bodyPost_ret (v := (sysV (some ⟨g, 0, none⟩) y.pn pc sa y.sn sc wa y.wn wc ha y.hn hh)) (by simp [results, Tryz.results50, go_sem, r0, r1, r2, r3]) rfl ?_
  rw [show (sysV (some ⟨g, 0, none⟩) y.pn pc sa y.sn sc wa y.wn wc ha y.hn hh) = x.v from ev]
  exact DrwS.fin hX (by rw [ey]; exact SM.out) KZ.out.1 KZ.out.2.1 (by omega) (by omega) (Nat.le_refl _) (by omega) (by omega) hTz _ _ _ _
 have t4 : (jj == 4) = false := by simpa using e4
 by_cases e5 : jj = 5
 ·subst e5
  clear t0 e0 t1 e1 t2 e2 t3 e3 t4 e4
  obtain ⟨col, vp, vs, vw, vh, up, us, uw, uh, ev, o, ht⟩ := KC.out.1.sy
  obtain ⟨rfl, rfl, rfl, rfl⟩ := sysV_inj ev
  have hsn : y.sn = y.pn := HO.out.cn.2.1
  have hhn : y.hn = y.pn := HO.out.cn.2.2.1
  have hph : p < y.hn := by omega
  have hph' : (p : Int) < (y.hn : Int) := by omega
  clear hsn hhn
  have KX3 : Hid (KX w w3 W0 c a0 len cap N B T col y (.slice pa y.pn pc) (.slice sa y.sn sc) (.slice wa y.wn wc) (.slice ha y.hn hh) up us uw uh) := ⟨KC.out.1.cu, KC.out.1.gr, o, KC.out.2.1, KC.out.2.2, ht, hcl, HS.out.1, HS.out.2.1, HS.out.2.2⟩
  clear o ht ev KC
  have hw1 : 1 ≤ y.wn ∧ y.wn ≤ 16 := by
   obtain ⟨⟨h1, h4⟩, -, -, hw⟩ := HO.out.cn
   rw [hw]
   exact ⟨Nat.mul_le_mul h1 h1, Nat.le_trans (Nat.mul_le_mul h4 h4) (by omega)⟩
  have b2 := KX3.out.b5.bx.2.2.1
  go_wp2_with fail
  refine (l1Below_any W0 c len cap a0 (y.wn : Nat) w3 KX3.out.cu (by omega) (by omega)).mono ?_
  rintro e w4 ⟨ii, rfl, ⟨i0, i1⟩, hc4, hg4⟩
  have KX4 : Hid (KX w w4 W0 c a0 len cap N B T col y (.slice pa y.pn pc) (.slice sa y.sn sc) (.slice wa y.wn wc) (.slice ha y.hn hh) up us uw uh) := KX3.out.draw hc4 hg4
  clear hc4 hg4 b2
  obtain ⟨iw, rfl⟩ : ∃ iw : Nat, ii = iw := ⟨ii.toNat, by omega⟩
  have hiw : iw < y.wn := by omega
  have hiw' : (iw : Int) < (y.wn : Int) := by omega
  have hlw : y.wL iw ≤ 12 := HO.out.bds.2.2.1 iw hiw
  obtain ⟨g, cww, eh, Pg, lg, cg, fg⟩ := KX4.out.ow.t.cell hiw
  simp only [Value.slice.injEq] at eh
  obtain ⟨rfl, -, rfl⟩ := eh
  obtain ⟨ua, uc, eu⟩ := ownsRow_slice (KX4.out.ow.t.own iw hiw)
  rw [eu] at cg
  have hN3 := KX4.out.b5.bx.2.2.1
  have AP : Hid (g ≠ c ∧ g ≠ w.heap.size ∧ g ≠ N ∧ w.heap.size < g) := KX4.out.apart (by decide) Pg
  have hM4 : w4.drew.heap.size = w4.heap.size := rfl
  go_upto_region 19 with fail
  refine wp_region_G (fun w' => w'.cell? ⟨N, 2, none⟩ = some (.slice (some ⟨g, 0, none⟩) y.wn wc) ∧ w'.cell? ⟨g, iw, none⟩ = some (.slice ua (y.wL iw) uc)) (fun i => i == 12) (by kernel_rfl) ?_
  have hHeld := And.intro hN3 cg
  refine wpGT_of [0, 1, 2, 3, 5, 6, 7, 8, 9] ?_
  iterate 9 (refine wpGT_take rfl hHeld ?_; apply Exists.intro; refine ⟨fun wq hSw => ?_, ?_⟩; (· ((try dsimp only at hSw); go_simp; try with_reducible rfl)); (try simp only [Act.put, List.setIfInBounds_toArray, List.set_cons_zero, List.set_cons_succ]))
  refine wpGT_nil ?_
  refine wpG_one 4 rfl (by kernel_rfl) (fun K hK => ?_)
  go_simp
  have ba : Below w4.heap.size w4 (w4.drew.alloc (.cells #[.bool true, .int .i64 0] 75)) := (Below.refl w4.heap.size w4).drew.trans (below_allocL w4.drew _)
  have BA : Hid (Below w4.heap.size w4 (w4.drew.alloc (.cells #[.bool true, .int .i64 0] 75))) := ba
  have hca := (bcell ba).1
  have hHeld := And.intro ((hca _ _ KX4.out.b5.lt).trans hHeld.1) ((hca _ _ lg).trans hHeld.2)
  refine hK.out _ _ (fun _ => hHeld) ?_
  clear hca ba
  clear hK K
  (try simp only [Act.put, List.setIfInBounds_toArray, List.set_cons_zero, List.set_cons_succ])
  refine wpG_one 10 rfl (by kernel_rfl) (fun K hK => ?_)
  have OH1 : (w4.drew.alloc (.cells #[.bool true, .int .i64 0] 75)).ownsRow 0 75 2 (.slice (some ⟨w4.heap.size, 0, none⟩) 1 1) 1 [.bool true, .int .i64 0] := World.ownsRow_lit (base := 0) (e := 75) (size := 2) w4.drew #[.bool true, .int .i64 0] 1 (Nat.zero_le _) (by unfold maxLen; omega) (by simp)
  have OH2 : Src (w4.drew.alloc (.cells #[.bool true, .int .i64 0] 75)) ua (fT (y.wH iw) (y.wL iw)) := by
   have := KX4.out.ow.t.own iw hiw
   rw [eu] at this
   exact (src_own this (fT_len _ _)).below BA.out
  refine stepR_append_src kndT (w4.drew.alloc (.cells #[.bool true, .int .i64 0] 75)) rfl _ _ rfl 0 (.slice (some ⟨w4.heap.size, 0, none⟩) 1 1) 1 [.bool true, .int .i64 0] rfl OH1 ua (y.wL iw) uc (fT (y.wH iw) (y.wL iw)) rfl (fT_len _ _) OH2 (fT_one _ _) (by omega) (Nat.zero_le _) ?_
  intro v8 w8 o8 g8 q8 n8
  have n8' : v8 ≠ .slice none 0 0 := n8 (.inl (by simp))
  rw [Nat.add_comm 1] at o8
  obtain ⟨a8, c8, rfl⟩ := ownsRow_slice o8
  have hsA : (w4.drew.alloc (.cells #[.bool true, .int .i64 0] 75)).heap.size = w4.heap.size + 1 := by simp
  have hb8 : ∀ k, k < w4.heap.size → w8.heap[k]? = w4.heap[k]? := fun k h1 => (g8.block k (by rw [hsA]; omega) (fun e => by have := own_at e.symm; omega)).trans (BA.out.block k h1)
  have hHeld := And.intro ((World.cell?_of_block (hb8 N KX4.out.b5.lt)).trans hN3) ((World.cell?_of_block (hb8 g lg)).trans cg)
  have hs8 : w4.heap.size ≤ w8.heap.size := by have := g8.size; rw [hsA] at this; omega
  have hq8 : ∀ k, (Value.slice a8 (y.wL iw + 1) c8).ownBlock = some k → w4.heap.size ≤ k := fun k hk => by
   rcases q8 with h | h
   ·rw [hk] at h
    have := own_at h.symm
    omega
   ·rw [hk, hsA] at h
    simp only [Option.some.injEq] at h
    omega
  have hfg : w8.frozen? ⟨g, iw, none⟩ = false := by
   rw [World.frozen?_of_block (hb8 g lg)]
   exact fg iw
  have SZ : Hid (SysT (w8.setCell ⟨g, iw, none⟩ (.slice a8 (y.wL iw + 1) c8)) B w8.heap.size (y.setW iw (y.wL iw + 1) (fun i => if i = 0 then ⟨true, 0⟩ else y.wH iw (i - 1))) (sysV pa y.pn pc sa y.sn sc (some ⟨g, 0, none⟩) y.wn wc ha y.hn hh)) := by
   have h := OwnS.putW KX4.out.ow hiw (u' := .slice a8 (y.wL iw + 1) c8) (m := y.wL iw + 1) (H' := fun i => if i = 0 then ⟨true, 0⟩ else y.wH iw (i - 1)) (w1 := w8) (by have h1 : B ≤ g := Pg.1; omega) hs8 (fun k h1 _ => hb8 k h1) (by rw [fT_cons]; exact o8) n8' (fun k hk => .inr (hq8 k hk))
   have h2 := h.sysT
   rw [World.size_setCell] at h2
   exact h2
  have KZ : Hid (Cur (w8.setCell ⟨g, iw, none⟩ (.slice a8 (y.wL iw + 1) c8)) W0 c a0 len cap ∧ w.grownBy (w8.setCell ⟨g, iw, none⟩ (.slice a8 (y.wL iw + 1) c8)) (some c) ∧ Bx (w8.setCell ⟨g, iw, none⟩ (.slice a8 (y.wL iw + 1) c8)) w.heap.size (.slice none 0 0) (.slice none 0 0) (.slice none 0 0) (.slice none 0 0) ∧ Bx (w8.setCell ⟨g, iw, none⟩ (.slice a8 (y.wL iw + 1) c8)) N (.slice pa y.pn pc) (.slice sa y.sn sc) (.slice (some ⟨g, 0, none⟩) y.wn wc) (.slice ha y.hn hh)) := by
   have g0 : w4.grownBy w8 none := ⟨g8.os.trans BA.out.os, g8.tape.trans BA.out.tape, g8.output.trans BA.out.output, hs8, fun k hk _ => hb8 k hk⟩
   have KX8 := KX4.out.below (below_of_grown g0)
   have hgg : w8.grownBy (w8.setCell ⟨g, iw, none⟩ (.slice a8 (y.wL iw + 1) c8)) (some g) := grown_setCell (World.grownBy.refl _ _) (.inl rfl) _
   have hA := AP.out
   have hW := KX8.cu.ge
   exact ⟨KX8.cu.kept hgg (fun e => hA.1 (by simpa using e.symm)) (fun k hk => by cases hk; omega), KX8.gr.andThen hgg (fun k hk => by cases hk; exact .inl (by omega)), KX8.b4.set (by omega), KX8.b5.set (by omega)⟩
  refine hK.out _ _ (fun _ => hHeld) ?_
  clear o8 g8 q8 n8 hb8 n8' hq8 hs8 hsA
  clear hK K
  (try simp only [Act.put, List.setIfInBounds_toArray, List.set_cons_zero, List.set_cons_succ])
  refine wpG_take 11 rfl hHeld ?_
  apply Exists.intro
  refine ⟨fun wq hSw => ?_, ?_⟩
  ·(try dsimp only at hSw)
   go_simp
   try with_reducible rfl
  (try simp only [Act.put, List.setIfInBounds_toArray, List.set_cons_zero, List.set_cons_succ])
  refine wpG_one 12 rfl (by kernel_rfl) (fun K hK => ?_)
  have hcN := hHeld.2
  go_simp
  refine hK.out _ _ (fun h => ?_) ?_
  ·exact absurd h (by decide)
  clear hK K
  (try simp only [Act.put, List.setIfInBounds_toArray, List.set_cons_zero, List.set_cons_succ])
  refine wpG_done (by kernel_rfl) ?_ _
  have SM : Hid (y.setW iw (y.wL iw + 1) (fun i => if i = 0 then ⟨true, 0⟩ else y.wH iw (i - 1))).Sm := by
   have hm := HO.out.sm
   have hb := HO.out.bds.2.2.1 iw hiw
   refine ⟨hm.n, hm.p, hm.s, fun i hi => ?_, hm.h⟩
   show (if i = iw then y.wL iw + 1 else y.wL i) ≤ 1000
   by_cases ei : i = iw
   ·rw [if_pos ei]; omega
   ·rw [if_neg ei]; exact hm.w i hi
  have hTz : w8.heap.size ≤ (w8.setCell ⟨g, iw, none⟩ (.slice a8 (y.wL iw + 1) c8)).heap.size := by simp
  generalize w8.setCell ⟨g, iw, none⟩ (.slice a8 (y.wL iw + 1) c8) = wz at *
  obtain ⟨⟨r0, r1, r2, r3⟩, rf⟩ := KZ.out.2.2.1
  obtain ⟨⟨b0, b1, b2, b3⟩, -⟩ := KZ.out.2.2.2
  have hsz := KX3.out.sz
  have hW := KX3.out.cu.ge
  clear hHeld
  go_wp2
  obtain ⟨x, ev, ey, hX⟩ := SZ.out.x
  refine bodyPost_ret (v := (sysV pa y.pn pc sa y.sn sc (some ⟨g, 0, none⟩) y.wn wc ha y.hn hh)) (by simp [results, Tryz.results50, go_sem, r0, r1, r2, r3]) rfl ?_
  rw [show (sysV pa y.pn pc sa y.sn sc (some ⟨g, 0, none⟩) y.wn wc ha y.hn hh) = x.v from ev]
  exact DrwS.fin hX (by rw [ey]; exact SM.out) KZ.out.1 KZ.out.2.1 (by omega) (by omega) (Nat.le_refl _) (by omega) (by omega) hTz _ _ _ _
 have t5 : (jj == 5) = false := by simpa using e5
 clear e0 e1 e2 e3 e4 e5 j0 j1
 obtain ⟨⟨r0, r1, r2, r3⟩, rf⟩ := KC.out.2.1
 obtain ⟨⟨b0, b1, b2, b3⟩, -⟩ := KC.out.2.2
 go_upto_region 20 with fail
 go_wp2
 obtain ⟨x, ev, ey, hX⟩ := KC.out.1.sy.x
 refine bodyPost_ret (v := (sysV pa y.pn pc sa y.sn sc wa y.wn wc ha y.hn hh)) (by simp [results, Tryz.results50, go_sem, r0, r1, r2, r3]) rfl ?_
 rw [show (sysV pa y.pn pc sa y.sn sc wa y.wn wc ha y.hn hh) = x.v from ev]
 exact DrwS.fin hX (by rw [ey]; exact HO.out.sm) KC.out.1.cu KC.out.1.gr KC.out.1.lt HS.out.1 (Nat.le_refl _) (by omega) (by omega) (by have := KC.out.2.2.lt; have := HS.out; omega) _ _ _ _
structure DW (w wr : World) (W0 c : Nat) (a0 : Option Addr) (len cap N M B T : Nat) (x : SysIn) : Prop where
 cu : Cur wr W0 c a0 len cap
 be : Below w.heap.size w wr
 sx : SysX wr B T x
 b2 : Bx wr N (.slice none 0 0) (.slice none 0 0) (.slice none 0 0) (.slice none 0 0)
 b6 : Bx wr M (.slice x.pa x.pn x.pc) (.slice x.sa x.sn x.sc) (.slice x.wa x.wn x.wc) (.slice x.ha x.hn x.hc)
 sz : w.heap.size ≤ N ∧ N < c ∧ c < B ∧ c < M ∧ T ≤ M
theorem DW.draw {w wr w' : World} {W0 c len cap N M B T : Nat} {a0 : Option Addr} {x : SysIn} (h : DW w wr W0 c a0 len cap N M B T x) (hc : Cur w' W0 c a0 len cap) (hg : wr.grownBy w' (some c)) : DW w w' W0 c a0 len cap N M B T x :=
 ⟨hc, Below.grown h.be hg (by have := h.be.size; exact this) (fun k hk => by cases hk; have := h.sz; omega), h.sx.keep hg.size fun b hb _ hl => hg.block b hl (by have := h.sz; simp; omega), h.b2.grown hg (by have := h.sz; simp; omega), h.b6.grown hg (by have := h.sz; simp; omega), h.sz⟩
theorem DW.set4 {w wr : World} {W0 c len cap N M B T : Nat} {a0 : Option Addr} {x : SysIn} (h : DW w wr W0 c a0 len cap N M B T x) (u0 u1 u2 u3 : Value) : SysX ((((wr.setCell ⟨N, 0, none⟩ u0).setCell ⟨N, 1, none⟩ u1).setCell ⟨N, 2, none⟩ u2).setCell ⟨N, 3, none⟩ u3) B T x :=
 h.sx.keep (by simp) fun b hb _ _ => by
  have := h.sz
  rw [Below.heap_setCell _ _ _ _ (by show b ≠ N; omega), Below.heap_setCell _ _ _ _ (by show b ≠ N; omega), Below.heap_setCell _ _ _ _ (by show b ≠ N; omega), Below.heap_setCell _ _ _ _ (by show b ≠ N; omega)]
def DrwW (w : World) (e : Ending) (w' : World) : Prop := ∃ (x : SysIn) (a b : Int) (B T : Nat), e = .returned (.tuple #[x.v, .int .i64 a, .int .i64 b]) ∧ x.y.Sm ∧ SysX w' B T x ∧ w.heap.size ≤ B ∧ T ≤ w'.heap.size ∧ Below w.heap.size w w' ∧ (-1 ≤ a ∧ a ≤ 4) ∧ (-1 ≤ b ∧ b ≤ 4)
theorem DrawWayOf_any (W0 len cap : Nat) (a0 : Option Addr) (w : World) (hB : BytesAt w W0 a0 len) (hW : W0 ≤ w.heap.size) (ln : len ≤ 1048576) :
  Calls Tryz.prog 10 #[.slice a0 len cap] w (DrwW w) := by
 have C0 : Hid (BytesAt (w.alloc (zQ3)) W0 a0 len ∧ W0 ≤ (w.alloc (zQ3)).heap.size ∧ Below w.heap.size w (w.alloc (zQ3)) ∧ Bx (w.alloc (zQ3)) w.heap.size (.slice none 0 0) (.slice none 0 0) (.slice none 0 0) (.slice none 0 0) ∧ (w.alloc (zQ3)).heap.size = w.heap.size + 1) := ⟨hB.kept (fun k hk => (below_allocL w (zQ3)).block k (by omega)), by simp; omega, below_allocL _ _, Bx.new w _ _ _ _ _, by simp⟩
 clear hB
 go_enter Tryz.func10, Tryz.ntmps10
 go_wp2_with fail
 generalize w.alloc (zQ3) = W2 at *
 refine (l1New_any W0 len cap a0 W2 C0.out.1 C0.out.2.1 ln).mono ?_
 rintro e w1 ⟨rfl, hc1, hg1⟩
 have C1 : Hid (Cur w1 W0 W2.heap.size a0 len cap ∧ Below w.heap.size w w1 ∧ Bx w1 w.heap.size (.slice none 0 0) (.slice none 0 0) (.slice none 0 0) (.slice none 0 0) ∧ W2.heap.size = w.heap.size + 1 ∧ W2.heap.size < w1.heap.size) := ⟨hc1, C0.out.2.2.1.trans ((below_of_grown hg1).mono C0.out.2.2.1.size), C0.out.2.2.2.1.below (below_of_grown hg1), C0.out.2.2.2.2, hc1.lt⟩
 clear hc1 hg1 C0
 generalize W2.heap.size = c at *
 go_wp2_with fail
 refine (l6Draw_any W0 c len cap a0 w1 C1.out.1).mono ?_
 rintro e w2 ⟨x, B, T, rfl, hm, hX, hc2, hg2, hcB, hT⟩
 have DA : Hid (DW w (w2.alloc (oQ4 x.pa x.pn x.pc x.sa x.sn x.sc x.wa x.wn x.wc x.ha x.hn x.hc)) W0 c a0 len cap w.heap.size w2.heap.size B T x) := by
  have hs := hg2.size
  have h1 := C1.out.2.2.2.1
  have h2 := C1.out.2.2.2.2
  refine ⟨hc2.alloc _, (Below.grown C1.out.2.1 hg2 C1.out.2.1.size (fun k hk => by cases hk; omega)).trans ((below_allocL _ _).mono (by have := C1.out.2.1.size; omega)), hX.keep (by simp) fun b _ _ hl => (below_allocL w2 _).block b hl, (C1.out.2.2.1.grown hg2 (by simp; omega)).below (below_allocL _ _), Bx.new _ _ _ _ _ _, Nat.le_refl _, by omega, hcB, by omega, hT⟩
 have HM : Hid x.y.Sm := hm
 clear hX hc2 hg2 hcB hT C1 hm
 go_wp2_with fail
 generalize w2.alloc (oQ4 x.pa x.pn x.pc x.sa x.sn x.sc x.wa x.wn x.wc x.ha x.hn x.hc) = wA at *
 generalize w2.heap.size = M at *
 refine (l1Below_any W0 c len cap a0 5 wA DA.out.cu (by omega) (by omega)).mono ?_
 rintro e w3 ⟨k1, rfl, ⟨k10, k11⟩, hc3, hg3⟩
 have D3 : Hid (DW w w3 W0 c a0 len cap w.heap.size M B T x) := DA.out.draw hc3 hg3
 clear hc3 hg3 DA
 go_wp2_with fail
 refine (l1Below_any W0 c len cap a0 20 w3 D3.out.cu (by omega) (by omega)).mono ?_
 rintro e w4 ⟨k2, rfl, ⟨k20, k21⟩, hc4, hg4⟩
 have D4 : Hid (DW w w4 W0 c a0 len cap w.heap.size M B T x) := D3.out.draw hc4 hg4
 clear hc4 hg4 D3
 obtain ⟨q2, hq2, q20, q21⟩ : ∃ q2 : Int, Int.tdiv k2 19 = q2 ∧ 0 ≤ q2 ∧ q2 ≤ 1 := ⟨_, rfl, by
  rw [Int.tdiv_eq_ediv_of_nonneg k20]; omega, by
  rw [Int.tdiv_eq_ediv_of_nonneg k20]; omega⟩
 go_wp2_with fail
 clear hq2
 obtain ⟨⟨x0, x1, x2, x3⟩, xf⟩ := D4.out.b2
 obtain ⟨⟨z0, z1, z2, z3⟩, -⟩ := D4.out.b6
 go_region_law (first
  | (refine step_call rfl 51 _ _ rfl #[.pointer (some ⟨c, 0, none⟩), .int .i64 5] (by simp [Act.eval, Act.put]) (run_enter Tryz.func51 (by kernel_rfl) rfl) (l1Below_any W0 c len cap a0 5 w4.drew D4.out.cu.drew (by omega) (by omega)) ?_; rintro e w5 ⟨k3, rfl, ⟨k30, k31⟩, hc5, hg5⟩; refine ⟨_, rfl, ?_⟩; have D5 : Hid (DW w w5 W0 c a0 len cap w.heap.size M B T x) := D4.out.draw hc5 ⟨hg5.os, hg5.tape, hg5.output, hg5.size, hg5.block⟩; obtain ⟨⟨p0, p1, p2, p3⟩, pf⟩ := D5.out.b2; obtain ⟨⟨s0, s1, s2, s3⟩, -⟩ := D5.out.b6; clear hc5 hg5)
  | (refine step_call rfl 51 _ _ rfl #[.pointer (some ⟨c, 0, none⟩), .int .i64 20] (by simp [Act.eval]) (run_enter Tryz.func51 (by kernel_rfl) rfl) (l1Below_any W0 c len cap a0 20 w5 D5.out.cu (by omega) (by omega)) ?_; rintro e w6 ⟨k4, rfl, ⟨k40, k41⟩, hc6, hg6⟩; refine ⟨_, rfl, ?_⟩; have D6 : Hid (DW w w6 W0 c a0 len cap w.heap.size M B T x) := D5.out.draw hc6 hg6; obtain ⟨⟨m0, m1, m2, m3⟩, mf⟩ := D6.out.b2; obtain ⟨⟨o0, o1, o2, o3⟩, -⟩ := D6.out.b6; clear hc6 hg6))
 all_goals
  obtain ⟨q4, hq4, q40, q41⟩ : ∃ q4 : Int, Int.tdiv k4 19 = q4 ∧ 0 ≤ q4 ∧ q4 ≤ 1 := ⟨_, rfl, by
   rw [Int.tdiv_eq_ediv_of_nonneg k40]; omega, by
   rw [Int.tdiv_eq_ediv_of_nonneg k40]; omega⟩
  have e1 : IntKind.i64.wrap q4 = q4 := by
   have := q40
   have := q41
   rw [IntKind.wrap_i64]
   omega
  have e2 : IntKind.i64.wrap (k3 - q4) = k3 - q4 := by
   have := q40
   have := q41
   rw [IntKind.wrap_i64]
   omega
  rw [hq4, e1, e2]
  clear e1 e2 hq4 x0 x1 x2 x3 xf z0 z1 z2 z3 p0 p1 p2 p3 pf s0 s1 s2 s3 o0 o1 o2 o3
  go_wp2
  refine bodyPost_ret (v := .tuple #[x.v, .int .i64 (k1 - q2), .int .i64 (k3 - q4)]) (by simp [results, Tryz.results10, go_sem, m0, m1, m2, m3]) rfl ⟨x, k1 - q2, k3 - q4, B, T, rfl, HM.out, ?_, ?_, ?_, ?_, by omega, by omega⟩
  ·exact D6.out.set4 _ _ _ _
  ·have := D6.out.sz
   omega
  ·have := D6.out.sz
   have := D6.out.b6.lt
   simp
   omega
  ·exact (((D6.out.be.setCell (Nat.le_refl _) _).setCell (Nat.le_refl _) _).setCell (Nat.le_refl _) _).setCell (Nat.le_refl _) _
structure DN (w wr : World) (W0 c : Nat) (a0 : Option Addr) (len cap n : Nat) (v : Value) : Prop where
 cu : Cur wr W0 c a0 len cap
 be : Below w.heap.size w wr
 ow : ∃ H, wr.ownsRow (c + 1) 75 2 v n (fT H n)
 ne : v ≠ .slice none 0 0
 ge : w.heap.size ≤ c
theorem DN.draw {w wr w' : World} {W0 c len cap n : Nat} {a0 : Option Addr} {v : Value} (h : DN w wr W0 c a0 len cap n v) (hc : Cur w' W0 c a0 len cap) (hg : wr.grownBy w' (some c)) : DN w w' W0 c a0 len cap n v := by
 refine ⟨hc, Below.grown h.be hg h.be.size (fun k hk => by cases hk; exact h.ge), ?_, h.ne, h.ge⟩
 obtain ⟨H, o⟩ := h.ow
 refine ⟨H, o.kept hg (.inr fun e => ?_)⟩
 have := (o.lt c e).1
 omega
theorem DrawNumbers_any (W0 len cap : Nat) (a0 : Option Addr) (w : World) (hB : BytesAt w W0 a0 len) (hW : W0 ≤ w.heap.size) (ln : len ≤ 1048576) :
  Calls Tryz.prog 15 #[.slice a0 len cap] w fun e w' => ∃ (a : Option Addr) (n c : Nat) (H : Nat → I2), e = .returned (.slice a n c) ∧ n ≤ 8 ∧ ItL w' a n H ∧ Below w.heap.size w w' := by
 have HB : Hid (BytesAt w W0 a0 len) := hB
 clear hB
 go_enter Tryz.func15, Tryz.ntmps15
 go_wp2_with fail
 refine (l1New_any W0 len cap a0 w HB.out hW ln).mono ?_
 rintro e w1 ⟨rfl, hc1, hg1⟩
 have D1 : Hid (DN w (w1.alloc (.cells #[] 75)) W0 w.heap.size a0 len cap 0 (.slice (some ⟨w1.heap.size, 0, none⟩) 0 0)) := by
  have hlt := hc1.lt
  exact ⟨hc1.alloc _, (below_of_grown hg1).trans ((below_allocL _ _).mono (by have := hg1.size; omega)), ⟨fun _ => ⟨false, 0⟩, World.ownsRow_made (base := w.heap.size + 1) (e := 75) (size := 2) w1 #[] 0 (by omega) (by unfold maxLen; omega) (by simp)⟩, by simp, Nat.le_refl _⟩
 clear hc1 hg1 HB
 generalize w.heap.size = c at *
 go_wp2_with fail
 go_loopw [4, 5] (fun v i wr => ∃ k : Nat, k ≤ 7 ∧ i = .int .i64 k ∧ Hid (DN w wr W0 c a0 len cap k v)) (fun _ i _ => 8 - (intOf i).toNat)
 case atStart => exact ⟨0, by omega, rfl, D1.out⟩
 case round =>
  obtain ⟨k, hk, rfl, DZ⟩ := hrel
  go_wp2_with fail
  refine (l1Below_any W0 c len cap a0 8 wr DZ.out.cu (by omega) (by omega)).mono ?_
  rintro e w2 ⟨x, rfl, ⟨x0, x1⟩, hc2, hg2⟩
  have D2 : Hid (DN w w2 W0 c a0 len cap k u4) := DZ.out.draw hc2 hg2
  clear hc2 hg2 DZ
  by_cases hlt : (k : Int) < x
  ·go_wp2_with fail
   refine (l1Once_any W0 c len cap a0 3 w2 D2.out.cu (by omega) (by omega)).mono ?_
   rintro e w3 ⟨t, rfl, hc3, hg3⟩
   have D3 : Hid (DN w w3 W0 c a0 len cap k u4) := D2.out.draw hc3 hg3
   clear hc3 hg3 D2
   go_wp2_with fail
   refine (l1Below_any W0 c len cap a0 9 w3 D3.out.cu (by omega) (by omega)).mono ?_
   rintro e w4 ⟨y, rfl, -, hc4, hg4⟩
   have D4 : Hid (DN w w4 W0 c a0 len cap k u4) := D3.out.draw hc4 hg4
   clear hc4 hg4 D3
   obtain ⟨H, ho⟩ := D4.out.ow
   have HO : Hid (w4.ownsRow (c + 1) 75 2 u4 k (fT H k)) := ho
   have HK : Hid (k ≤ 2000000 ∧ c + 1 ≤ w4.heap.size) := ⟨by omega, D4.out.cu.lt⟩
   clear ho
   go_wp2_with (at_builtin; refine step_append_val kndT w4 rfl rfl _ _ rfl (c + 1) u4 k _ rfl HO.out #[.bool t, .int .i64 y] rfl rfl (by intro u hu; simp at hu; rcases hu with rfl | rfl <;> rfl) HK.out.1 HK.out.2 ?_; intro v5 w5 o5 g5 q5 n5; have D5 : Hid (DN w w5 W0 c a0 len cap (k + 1) v5) := ⟨D4.out.cu.kept g5 (fun e => by have := (HO.out.lt c e.symm).1; omega) (fun j hj => by have := (HO.out.lt j hj).1; have := D4.out.cu.ge; omega), Below.grown D4.out.be g5 D4.out.be.size (fun j hj => by have := (HO.out.lt j hj).1; have := D4.out.ge; omega), ⟨fun i => if i = k then ⟨t, y⟩ else H i, by rw [fT_push]; exact o5⟩, n5, D4.out.ge⟩; clear o5 g5 q5 n5)
   go_roundw
   case rel => exact ⟨k + 1, by omega, by go_num, D5.out⟩
   case measure => simp [intOf]; omega
  ·go_wp2
   obtain ⟨H, ho⟩ := D2.out.ow
   obtain ⟨a, q, rfl⟩ := ownsRow_slice ho
   have HF : Hid (ItL w2 a k H ∧ Below w.heap.size w w2) := ⟨itL_ow ho D2.out.ne, D2.out.be⟩
   clear ho
   go_ret
   exact ⟨_, _, _, H, rfl, by omega, HF.out⟩
structure WK (w wr : World) (X : Nat) (x : SysIn) : Prop where
 g : SysG wr x
 bx : BoxC wr X (.slice x.pa x.pn x.pc) (.slice x.sa x.sn x.sc) (.slice x.wa x.wn x.wc) (.slice x.ha x.hn x.hc)
 be : Below w.heap.size w wr
theorem WK.below {w wr w' : World} {X : Nat} {x : SysIn} (h : WK w wr X x) (hb : Below wr.heap.size wr w') : WK w w' X x := ⟨h.g.below hb, h.bx.below hb, h.be.trans (hb.mono h.be.size)⟩
theorem WK.lt {w wr : World} {X : Nat} {x : SysIn} (h : WK w wr X x) : X < wr.heap.size := World.block_lt_of_cell? wr _ h.bx.1
theorem stepR_callD {ops : Array Oper} {o : Oper} {a : Act} {w : World} {K : Act → World → Prop} {Q : Exit → Act → World → Prop} {E : Prop} (hw : Region.wanted o (yielded ops a.tmps) = true) (f : FuncId) (args : Array Operand) (ts : Array TypeId)
  (ho : o.op = .call { callee := .value (.func f), args := args, argTypes := ts }) (vals : Array Value) (hv : args.map a.eval = vals) (hen : ∀ vs wx, (callFunc f vs).run Tryz.prog wx = .ok (.enter f vs) wx) {post : Ending → World → Prop} (hc : Calls Tryz.prog f vals w post)
  (h : ∀ e w', post e w' → ∃ v, e = .returned v ∧ K (a.put o.dst v) w') :
  if Region.wanted o (yielded ops a.tmps) = true then Oper.wp Tryz.prog o a w K Q else E := by
 rw [if_pos hw]
 have hr : (execOp a.eval o).run Tryz.prog w = .ok (.enter f vals) w := by
  unfold execOp
  simp [ho, resolve, invoke, hv, hen, Act.eval, Deferred.ofValue]
 unfold Oper.wp
 rw [hr, Oper.upon_enter]
 refine hc.mono fun e w' hp => ?_
 obtain ⟨v, rfl, hk⟩ := h e w' hp
 exact hk
theorem way_in {x : SysIn} (hO : x.y.Ok) {a b : Nat} (ha : a < x.pn) (hb : b < x.pn) : valL (x.hH b) 3 a (x.hL b) ++ numL (wayH x a b) (wayN x a b) = valL (x.hH a) 2 b (x.hL a) := by
 have hc : x.wn = x.pn * x.pn := hO.cn.2.2.2
 have h1 : a * x.pn + b < x.pn * x.pn := by
  have := Nat.mul_le_mul (show a + 1 ≤ x.pn by omega) (Nat.le_refl x.pn)
  rw [Nat.add_mul, Nat.one_mul] at this
  omega
 have e1 : ((a : Int) * (x.pn : Int) + (b : Int)) = ((a * x.pn + b : Nat) : Int) := by simp
 have e2 : ((a : Int) * (x.pn : Int) + (b : Int)).toNat = a * x.pn + b := by rw [e1]; exact Int.toNat_natCast _
 have e3 : wayN x a b = x.wL (a * x.pn + b) := by
  unfold wayN
  rw [if_pos, e2]
  simp only [wayB, belB, Bool.and_eq_true, decide_eq_true_eq]
  rw [e1]
  omega
 have e4 : wayH x a b = x.wH (a * x.pn + b) := by
  unfold wayH
  rw [e2]
 rw [e3, e4]
 exact (hO.wa a ha b hb).eq
theorem waysLaw_small (a0 : Option Addr) (len cap : Nat) (w : World) (hl : len ≤ 1048576) (hB : BytesAt w w.heap.size a0 len) (hV : w.cell? ⟨0, 0, none⟩ = some (.iface 269 (.agg #[.pointer (some ⟨1, 184, none⟩)]))) :
  Calls Tryz.prog 3 #[.slice a0 len cap] w fun e w' => e = .returned (.bool true) ∧ Below w.heap.size w w' := by
 have HB : Hid (BytesAt w w.heap.size a0 len) := hB
 have HV : Hid (∀ wx, Below w.heap.size w wx → wx.cell? ⟨0, 0, none⟩ = some (.iface 269 (.agg #[.pointer (some ⟨1, 184, none⟩)]))) := fun wx hb => (hb.cell (p := ⟨0, 0, none⟩) (World.block_lt_of_cell? w _ hV)).trans hV
 have hlt : ¬ (1048576 : Int) < (len : Int) := by omega
 clear hB hV
 go_enter Tryz.func3, Tryz.ntmps3
 go_wp2_with fail
 refine (big_any a0 len cap w).mono ?_
 rintro e w1 ⟨rfl, rfl⟩
 rw [decide_eq_false (show ¬ (1048576 : Int) < (len : Int) by omega)]
 go_wp2_with fail
 refine (DrawWayOf_any w1.heap.size len cap a0 w1 HB.out (Nat.le_refl _) hl).mono ?_
 rintro e w2 ⟨x, a, b, B, T, rfl, hm, hX, -, -, b2, ⟨a0', a1'⟩, ⟨b0', b1'⟩⟩
 have HM : Hid (x.Len ∧ (∀ i, i < x.hn → x.hL i ≤ x.hC i) ∧ x.Nn false ∧ x.y.Sm) := ⟨hm.inLen, hX.cap, hX.nn, hm⟩
 have K2 : Hid (WK w1 (w2.alloc (oQ4 x.pa x.pn x.pc x.sa x.sn x.sc x.wa x.wn x.wc x.ha x.hn x.hc)) w2.heap.size x) := ⟨hX.self.below (below_allocL _ _), BoxC.new _ _ _ _ _ _, b2.trans ((below_allocL _ _).mono b2.size)⟩
 clear hX b2 hm
 go_wp2_with fail
 generalize w2.alloc (oQ4 x.pa x.pn x.pc x.sa x.sn x.sc x.wa x.wn x.wc x.ha x.hn x.hc) = W2 at *
 generalize w2.heap.size = X at *
 clear w2
 refine (implWayOf_g x a b W2 K2.out.g HM.out.1 HM.out.2.2.1).mono ?_
 rintro e w3 ⟨u3, c3, rfl, i3, d3⟩
 have K3 : Hid (WK w1 w3 X x ∧ ItL w3 u3 (wayN x a b) (wayH x a b)) := ⟨K2.out.below d3, i3⟩
 clear i3 d3 K2
 obtain ⟨k0, k1, k2, k3⟩ := K3.out.1.bx
 go_wp2_with fail
 clear k0 k1 k2 k3
 refine (specWayOf_g x a b w3 K3.out.1.g HM.out.1 HM.out.2.2.1).mono ?_
 rintro e w4 ⟨u4, c4, rfl, -, d4⟩
 have K4 : Hid (WK w1 w4 X x ∧ ItL w4 u3 (wayN x a b) (wayH x a b)) := ⟨K3.out.1.below d4, K3.out.2.below d4⟩
 clear d4 K3
 have hwl : wayN x a b ≤ 1048576 := by
  unfold wayN
  split
  ·rename_i h
   simp only [wayB, Bool.and_eq_true, decide_eq_true_eq, belB] at h
   have h2 : ((x.pn : Int) * (x.pn : Int) ≥ 0) := Int.mul_nonneg (by omega) (by omega)
   have h3 : 0 ≤ a * (x.pn : Int) := Int.mul_nonneg (by omega) (by omega)
   exact HM.out.1.w.2 _ (by omega)
  ·omega
 have HWl : Hid (wayN x a b ≤ 1048576) := hwl
 have HWy : Hid (∀ (_ : x.y.Ok) {p q : Nat}, p < x.pn → q < x.pn → a = (p : Int) → b = (q : Int) → valL (x.hH q) 3 p (x.hL q) ++ numL (wayH x a b) (wayN x a b) = valL (x.hH p) 2 q (x.hL p)) := fun hO p q hp hq ea eb => by
  rw [ea, eb]
  exact way_in hO hp hq
 clear hwl
 generalize wayN x a b = n1 at *
 generalize wayH x a b = h1 at *
 go_upto_region 6 with fail
 have k4 := K4.out.1
 have q0 : Below w4.heap.size w4 w4.drew := (Below.refl w4.heap.size w4).drew
 refine wp_region_G (fun w' => w'.cell? ⟨X, 0, none⟩ = some (.slice x.pa x.pn x.pc) ∧ w'.cell? ⟨X, 1, none⟩ = some (.slice x.sa x.sn x.sc) ∧ w'.cell? ⟨X, 2, none⟩ = some (.slice x.wa x.wn x.wc) ∧ w'.cell? ⟨X, 3, none⟩ = some (.slice x.ha x.hn x.hc)) (fun _ => false) (by kernel_rfl) ?_
 have hHeld : (fun w' : World => w'.cell? ⟨X, 0, none⟩ = some (.slice x.pa x.pn x.pc) ∧ w'.cell? ⟨X, 1, none⟩ = some (.slice x.sa x.sn x.sc) ∧ w'.cell? ⟨X, 2, none⟩ = some (.slice x.wa x.wn x.wc) ∧ w'.cell? ⟨X, 3, none⟩ = some (.slice x.ha x.hn x.hc)) w4.drew := (k4.below q0).bx
 refine wpGT_of [0, 1, 2, 3, 4, 5, 6, 8] ?_
 iterate 8 (refine wpGT_take rfl hHeld ?_; apply Exists.intro; refine ⟨fun wq hSw => ?_, ?_⟩; (· ((try dsimp only at hSw); go_simp; try with_reducible rfl)); (try simp only [Act.put, List.setIfInBounds_toArray, List.set_cons_zero, List.set_cons_succ]))
 refine wpGT_nil ?_
 refine wpG_one 7 rfl (by kernel_rfl) (fun K hK => ?_)
 refine stepR_callD rfl 13 _ _ rfl #[x.v] (by simp [Act.eval, SysIn.v, sysV]) (run_enter Tryz.func13 (by kernel_rfl) rfl) (implSysOk_any x w4.drew (k4.below q0).g HM.out.1 (HV.out _ (k4.below q0).be)) ?_
 rintro e w5 ⟨rfl, d5⟩
 refine ⟨_, rfl, ?_⟩
 have q5 : Below w4.heap.size w4 w5 := q0.trans (d5.mono q0.size)
 have hHeld5 : (fun w' : World => w'.cell? ⟨X, 0, none⟩ = some (.slice x.pa x.pn x.pc) ∧ w'.cell? ⟨X, 1, none⟩ = some (.slice x.sa x.sn x.sc) ∧ w'.cell? ⟨X, 2, none⟩ = some (.slice x.wa x.wn x.wc) ∧ w'.cell? ⟨X, 3, none⟩ = some (.slice x.ha x.hn x.hc)) w5 := (k4.below q5).bx
 refine hK.out _ _ (fun _ => hHeld5) ?_
 clear hHeld
 have hHeld := hHeld5
 clear hHeld5 d5 hK K
 (try simp only [Act.put, List.setIfInBounds_toArray, List.set_cons_zero, List.set_cons_succ])
 refine wpG_one 9 rfl (by kernel_rfl) (fun K hK => ?_)
 refine stepR_callD rfl 14 _ _ rfl #[x.v] (by simp [Act.eval, SysIn.v, sysV]) (run_enter Tryz.func14 (by kernel_rfl) rfl) (specSysOk_any x w5 (k4.below q5).g HM.out.1 HM.out.2.1) ?_
 rintro e w6 ⟨rfl, d5⟩
 refine ⟨_, rfl, ?_⟩
 have q6 : Below w4.heap.size w4 w6 := q5.trans (d5.mono q5.size)
 have hHeld5 : (fun w' : World => w'.cell? ⟨X, 0, none⟩ = some (.slice x.pa x.pn x.pc) ∧ w'.cell? ⟨X, 1, none⟩ = some (.slice x.sa x.sn x.sc) ∧ w'.cell? ⟨X, 2, none⟩ = some (.slice x.wa x.wn x.wc) ∧ w'.cell? ⟨X, 3, none⟩ = some (.slice x.ha x.hn x.hc)) w6 := (k4.below q6).bx
 refine hK.out _ _ (fun _ => hHeld5) ?_
 clear hHeld
 have hHeld := hHeld5
 clear hHeld5 d5 hK K
 (try simp only [Act.put, List.setIfInBounds_toArray, List.set_cons_zero, List.set_cons_succ])
 obtain ⟨ok, hok⟩ : ∃ ok, x.y.okB = ok := ⟨_, rfl⟩
 rw [hok]
 have HE : Hid (x.y.okB = ok) := hok
 clear hok
 refine wpGT_of [10, 11] ?_
 iterate 2 (refine wpGT_take rfl hHeld ?_; apply Exists.intro; refine ⟨fun wq hSw => ?_, ?_⟩; (· ((try dsimp only at hSw); go_simp; try with_reducible rfl)); (try simp only [Act.put, List.setIfInBounds_toArray, List.set_cons_zero, List.set_cons_succ]))
 refine wpGT_nil ?_
 refine wpG_done (by kernel_rfl) ?_ _
 have K6 : Hid (WK w1 w6 X x ∧ ItL w6 u3 n1 h1) := ⟨k4.below q6, K4.out.2.below q6⟩
 clear hHeld q6 q5 q0 k4 K4
 go_wp2_with fail
 refine (DrawNumbers_any w1.heap.size len cap a0 w6 (HB.out.kept fun k hk => K6.out.1.be.block k hk) K6.out.1.be.size hl).mono ?_
 rintro e w7 ⟨la, ln, lc, LH, rfl, hln, il, d7⟩
 have K7 : Hid (WK w1 w7 X x ∧ ItL w7 u3 n1 h1 ∧ ItL w7 la ln LH) := ⟨K6.out.1.below d7, K6.out.2.below d7, il⟩
 clear d7 il K6 HB
 go_wp2_with fail
 refine (implNumbers_l la ln lc LH w7 (by omega) K7.out.2.2).mono ?_
 rintro e w8 ⟨v8, rfl, o8, d8⟩
 have hnl := numL_le LH ln
 obtain ⟨N1, hN1⟩ : ∃ N1, numL LH ln = N1 := ⟨_, rfl⟩
 rw [hN1] at o8 hnl
 have HN1 : Hid (numL LH ln = N1) := hN1
 clear hN1
 obtain ⟨a8, c8, rfl, s8⟩ := o8.form
 have K8 : Hid (WK w1 w8 X x ∧ ItL w8 u3 n1 h1 ∧ ItL w8 la ln LH ∧ Sl w8 a8 N1) := ⟨K7.out.1.below d8, K7.out.2.1.below d8, K7.out.2.2.below d8, s8⟩
 clear o8 s8 d8 K7
 go_wp2_with fail
 refine (specNumbers_l la ln lc LH w8 (by omega) K8.out.2.2.1).mono ?_
 rintro e w9 ⟨v9, rfl, o9, d9⟩
 rw [HN1.out] at o9
 obtain ⟨a9, c9, rfl, s9⟩ := o9.form
 have K9 : Hid (WK w1 w9 X x ∧ ItL w9 u3 n1 h1 ∧ Sl w9 a8 N1 ∧ Sl w9 a9 N1) := ⟨K8.out.1.below d9, K8.out.2.1.below d9, K8.out.2.2.2.below d9, s9⟩
 clear o9 s9 d9 K8 HN1
 go_wp2_with fail
 refine (sameInts_same a8 a9 c8 c9 N1 w9 (by omega) K9.out.2.2.1 K9.out.2.2.2).mono ?_
 rintro e w10 ⟨rfl, d10⟩
 have K10 : Hid (WK w1 w10 X x ∧ ItL w10 u3 n1 h1) := ⟨K9.out.1.below d10, K9.out.2.1.below d10⟩
 clear d10 K9
 obtain ⟨k0, k1, k2, k3⟩ := K10.out.1.bx
 go_wp2_with fail
 clear k0 k1 k2 k3
 refine (specSysOk_any x w10 K10.out.1.g HM.out.1 HM.out.2.1).mono ?_
 rintro e w11 ⟨rfl, d11⟩
 rw [HE.out]
 have K11 : Hid (WK w1 w11 X x ∧ ItL w11 u3 n1 h1) := ⟨K10.out.1.below d11, K10.out.2.below d11⟩
 clear d11 K10
 obtain ⟨k0, k1, k2, k3⟩ := K11.out.1.bx
 cases ok with
 | false =>
  go_wp2
  go_ret
  exact ⟨rfl, K11.out.1.be⟩
 | true =>
  have HO : Hid x.y.Ok := Sy.ok_of HE.out
  clear HE
  by_cases ta : a < 0
  ·go_wp2
   go_ret
   exact ⟨rfl, K11.out.1.be⟩
  by_cases tb : b < 0
  ·go_wp2
   go_ret
   exact ⟨rfl, K11.out.1.be⟩
  by_cases pa : (x.pn : Int) ≤ a
  ·go_wp2
   go_ret
   exact ⟨rfl, K11.out.1.be⟩
  by_cases pb : (x.pn : Int) ≤ b
  ·go_wp2
   go_ret
   exact ⟨rfl, K11.out.1.be⟩
  obtain ⟨p, ep⟩ : ∃ p : Nat, a = (p : Int) := ⟨a.toNat, by omega⟩
  obtain ⟨q, eq⟩ : ∃ q : Nat, b = (q : Int) := ⟨b.toNat, by omega⟩
  have HEq : Hid (valL (x.hH q) 3 p (x.hL q) ++ numL h1 n1 = valL (x.hH p) 2 q (x.hL p)) := HWy.out HO.out (by omega) (by omega) ep eq
  clear HWy
  subst ep eq
  have hhn : x.hn = x.pn := HO.out.cn.2.2.1
  have hp : p < x.hn := by omega
  have hq : q < x.hn := by omega
  have hp' : ¬ (x.hn : Int) ≤ (p : Int) := by omega
  have hq' : ¬ (x.hn : Int) ≤ (q : Int) := by omega
  have HLp : Hid (x.hL p ≤ 1000 ∧ x.hL q ≤ 1000 ∧ n1 ≤ 1048576) := ⟨HM.out.2.2.2.h p hp, HM.out.2.2.2.h q hq, HWl.out⟩
  obtain ⟨bh, oh, eh, -⟩ := K11.out.1.g.h.at hq
  have HH : Hid (∀ wx, WK w1 wx X x → ∀ i, i < x.hn → wx.cell? ⟨bh, oh + i, none⟩ = some (.slice (x.hA i) (x.hL i) (x.hC i)) ∧ wx.cell? ⟨X, 3, none⟩ = some (.slice (some ⟨bh, oh, none⟩) x.hn x.hc) ∧ EvL wx (x.hA i) (x.hL i) (x.hH i)) := fun wx kx i hi => by
   obtain ⟨b', o', e', c'⟩ := kx.g.h.at hi
   rw [eh] at e'
   cases e'
   have := kx.bx.2.2.2
   rw [eh] at this
   exact ⟨c', this, kx.g.hi i hi⟩
  clear hhn k0 k1 k2 k3
  have k0 := K11.out.1.bx.1
  obtain ⟨cq, k3, -⟩ := HH.out _ K11.out.1 q hq
  have lX := K11.out.1.lt
  go_wp2_with fail
  clear cq k3 k0 lX
  refine (implValues_l (x.hA q) (x.hL q) (x.hC q) (x.hH q) 3 p w11 (by have := HLp.out; omega) (HH.out _ K11.out.1 q hq).2.2).mono ?_
  rintro e w12 ⟨v12, rfl, o12, d12⟩
  have hv1 := valL_le (x.hH q) 3 p (x.hL q)
  obtain ⟨V1, hV1⟩ : ∃ V1, valL (x.hH q) 3 p (x.hL q) = V1 := ⟨_, rfl⟩
  rw [hV1] at o12 HEq hv1
  clear hV1
  obtain ⟨a12, c12, rfl, -⟩ := o12.form
  have K12 : Hid (WK w1 w12 X x ∧ ItL w12 u3 n1 h1 ∧ OwnI w12 w11.heap.size (.slice a12 V1.length c12) V1 ∧ w1.heap.size ≤ w11.heap.size) := ⟨K11.out.1.below d12, K11.out.2.below d12, o12, K11.out.1.be.size⟩
  have D12 : Hid (Below w11.heap.size w11 w12) := d12
  clear o12 d12
  go_wp2_with fail
  refine (implNumbers_l u3 n1 c3 h1 w12 HWl.out K12.out.2.1).mono ?_
  rintro e w13 ⟨v13, rfl, o13, d13⟩
  have hv2 := numL_le h1 n1
  obtain ⟨V2, hV2⟩ : ∃ V2, numL h1 n1 = V2 := ⟨_, rfl⟩
  rw [hV2] at o13 HEq hv2
  clear hV2
  obtain ⟨a13, c13, rfl, s13⟩ := o13.form
  have K13 : Hid (OwnI w13 w11.heap.size (.slice a12 V1.length c12) V1 ∧ Sl w13 a13 V2 ∧ Below w11.heap.size w11 w13 ∧ w11.heap.size ≤ w13.heap.size) := ⟨K12.out.2.2.1.below d13, s13, D12.out.trans (d13.mono D12.out.size), Nat.le_trans D12.out.size d13.size⟩
  have hvs : Hid (V1.length + V2.length ≤ 1050000) := by
   have := HLp.out
   show V1.length + V2.length ≤ 1050000
   omega
  obtain ⟨V, hV⟩ : ∃ V, V1 ++ V2 = V := ⟨_, rfl⟩
  have HV2 : Hid (V1 ++ V2 = V) := hV
  rw [hV] at HEq
  clear s13 o13 d13 K12 D12 hV hv1 hv2
  go_wp2_with (at_builtin; refine wpList_append_ints w13 rfl _ _ rfl w11.heap.size c13 (.slice a12 V1.length c12) a13 V1 V2 rfl rfl K13.out.1 K13.out.2.1 (Nat.le_trans hvs.out (by omega)) K13.out.2.2.2 ?_; intro v14 w14 o14 g14 q14; rw [HV2.out] at o14; have K14 : Hid (OwnI w14 w11.heap.size v14 V ∧ Below w11.heap.size w11 w14) := ⟨o14, Below.grown K13.out.2.2.1 g14 K13.out.2.2.2 (fun k hk => (K13.out.1.lt k hk).1)⟩; clear o14 g14 q14 K13; obtain ⟨a14, c14, rfl, s14⟩ := K14.out.1.form; obtain ⟨cp, kp3, -⟩ := HH.out _ (K11.out.1.below K14.out.2) p hp; have lX := (K11.out.1.below K14.out.2).lt)
  clear cp kp3 lX
  refine (implValues_l (x.hA p) (x.hL p) (x.hC p) (x.hH p) 2 q w14 (by have := HLp.out; omega) (HH.out _ (K11.out.1.below K14.out.2) p hp).2.2).mono ?_
  rintro e w15 ⟨v15, rfl, o15, d15⟩
  rw [← HEq.out] at o15
  obtain ⟨a15, c15, rfl, s15⟩ := o15.form
  have K15 : Hid (Sl w15 a14 V ∧ Sl w15 a15 V ∧ Below w1.heap.size w1 w15) := ⟨s14.below d15, s15, ((K11.out.1.below K14.out.2).below d15).be⟩
  clear o15 s15 d15 s14 K14 K11
  go_wp2_with fail
  refine (sameInts_same a14 a15 c14 c15 V w15 (by rw [HEq.out]; have := valL_le (x.hH p) 2 q (x.hL p); have := HLp.out; omega) K15.out.1 K15.out.2.1).mono ?_
  rintro e w16 ⟨rfl, d16⟩
  have K16 : Hid (Below w1.heap.size w1 w16) := K15.out.2.2.trans (d16.mono K15.out.2.2.size)
  clear d16 K15
  go_wp2
  go_ret
  exact ⟨rfl, K16.out⟩
theorem waysLaw_great (a0 : Option Addr) (len cap : Nat) (w : World) (_hm : len ≤ maxLen) (hl : 1048576 < len) :
  Calls Tryz.prog 3 #[.slice a0 len cap] w fun e w' => e = .returned (.bool true) ∧ Below w.heap.size w w' := by
 go_enter Tryz.func3, Tryz.ntmps3
 go_wp2_with fail
 refine (big_any a0 len cap w).mono ?_
 rintro e w1 ⟨rfl, rfl⟩
 rw [decide_eq_true (show (1048576 : Int) < (len : Int) by omega)]
 go_wp2
 go_ret
 exact ⟨rfl, Below.refl _ _⟩
open Go.ChangeShapes Go.WideShapes Go.ChangeAt
theorem waysLifted (os : Os) (started : os.Started) (H : Type) (enc : TypeId × Value → H) :
  ReturnsInHanded {} Tryz.checked os 3 .any (fun w args => (Rows.fnWaysSpec.pre enc Tryz.prog Tryz.f3 [] false w args ∧ laidMetH Tryz.prog [("errors.errorType", Rows.laid_errors_errorType)] w) ∧ sizedMet enc Tryz.prog Tryz.f3 (OpenSpec.ofChange Rows.fnWaysSpec) false w args)
   (Rows.fnWaysSpec.post enc Tryz.prog Tryz.f3 false true false false) := by
 refine returnsInHanded_of_change_and (C := Tryz.checked) (X := fun w _ => laidMetH Tryz.prog [("errors.errorType", Rows.laid_errors_errorType)] w) (fun _ _ _ hh h => h.of_heap hh) Tryz.own started (by kernel_rfl) Tryz.func3
  (ChangeSpec.witness_at (enc := enc) (C := Tryz.checked) (os := os) (X := fun w _ => laidMetH Tryz.prog [("errors.errorType", Rows.laid_errors_errorType)] w) false (laidWorld os) #[.slice none 0 0] 8 rfl (by kernel_rfl) (by kernel_rfl) (by kernel_rfl) (by kernel_rfl) (by kernel_rfl) (laidWorld_met os _)) ?_
 intro W base args ds gs before hval0 hW _ _ hL _
 have hval : ∀ (j : Nat) t v, Tryz.f3.params[j]? = some t → args[j]? = some v → Value.okWide Tryz.prog W .any base t v := hval0
 have hW' := hW
 obtain ⟨p, q, hA0, hV, rfl, hfz, hnd⟩ := hW
 have hA : DataW.TrodAll enc Tryz.prog W 0 (fun _ => true) true Tryz.f3.params.toList args.toList ds p := hA0
 rw [Tryz.params3] at hA hval
 obtain ⟨v0, d0, rfl, rfl, h0⟩ := trodAll_one hA
 obtain ⟨rfl, rfl⟩ := trodVars_none hV
 have lt0 : ∀ x ∈ p, x.block < W.heap.size := by obtain ⟨m, hm⟩ := h0; exact DataW.trod_lt m _ _ _ hm
 have hg := handle_of_laid hL
 clear hA0 hval0
 have hlaw : Calls Tryz.prog 3 #[v0] W fun e w' => e = .returned (.bool true) ∧ Below W.heap.size W w' := by
  obtain ⟨a0, len, cap, rfl⟩ := okWide_slice Tryz.underlying22 (hval 0 22 v0 rfl rfl)
  obtain ⟨hm, hB⟩ := open_bytes h0
  by_cases hs : len ≤ 1048576
  ·exact waysLaw_small a0 len cap W hs hB hg
  ·exact waysLaw_great a0 len cap W hm (by omega)
 refine hlaw.mono fun e W' ⟨he, bel⟩ => ?_
 subst he
 exact ⟨_, rfl, _, _, _, [], _, [], hW', trodAll_mk1 (shut_bool Tryz.underlying4 _), trodAll_mk1 (Below.trod Tryz.laidOut (by kernel_rfl) (of_decide_eq_true (by kernel_rfl)) h0 bel lt0), rfl, bel.frame _, fun h => by cases h⟩
theorem waysSaid : Rows.FnWaysSaid :=
 OpenClaim.holds_of_wide 3 Tryz.f3 rfl rfl rfl rfl rfl rfl rfl ⟨rfl, rfl, rfl, rfl, rfl⟩ rfl rfl rfl rfl rfl (by kernel_rfl) Tryz.func3 (by kernel_rfl)
  (of_decide_eq_true (by kernel_rfl)) (by unfold Func.isWrapper; first | (rw [if_pos (by decide +kernel)]; kernel_rfl) | (rw [if_neg (by decide +kernel)]; exact ⟨rfl, rfl⟩))
  (fun os started H enc _ => waysLifted os started H enc)
theorem waysPlain (f : FuncId) (fn : Func) (hf : Tryz.pinned.checked.prog.funcNamed "loop.example/g00196/laws.FnWays" = some f) (hfn : Tryz.pinned.checked.prog.funcs[f]? = some fn) :
  true = Tryz.pinned.checked.prog.looks [] ∧ ∀ (j : Nat) t, fn.params[j]? = some t → Tryz.pinned.checked.prog.wantsStandIn t = false := by
 obtain rfl : f = 3 := Option.some.inj ((show Tryz.prog.funcNamed "loop.example/g00196/laws.FnWays" = some 3 by kernel_rfl).symm.trans hf) |>.symm
 obtain rfl : fn = Tryz.f3 := (Option.some.inj (Tryz.func3.symm.trans hfn)).symm
 refine ⟨by kernel_rfl, fun j t ht => ?_⟩
 rw [Tryz.params3] at ht
 have hm := Array.mem_of_getElem? ht
 simp at hm
 obtain rfl := hm
 exact (show Tryz.prog.wantsStandIn 22 = false by kernel_rfl)
theorem ways_card : Rows.FnWaysCardSaid :=
 Claim7.holds_tied_plain_at .later [] _ _ _ _ waysSaid (fun _ h => by cases h) (by kernel_rfl) (fun _ h => by cases h) fnWays_row_tie rfl ⟨rfl, rfl⟩ (by kernel_rfl) rfl waysPlain (by kernel_rfl)
end Go.Proofs.YtbleeedbiipfnaaGreatDoor
