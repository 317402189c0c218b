/- whatever bytes are drawn by, a drawn step that is done is one event more of that process and of no other one, and leaves a system that is right; one that is not changes nothing; nothing is written into what came in. One condition, tied to the program's text: errors.errorType holds what its text lays. -/
import Derived.Test.YtcplnkhdclcgfaaGreatDoorSd0
import Derived.Test.YtcplnkhdclcgfaaGreatDoorSd49
import Derived.Test.YtcplnkhdclcgfaaGreatDoorSd46
import Derived.Deep.Cut
import Derived.Test.YtcplnkhdclcgfaaGreatDoorSd23
import Derived.Test.YtcplnkhdclcgfaaGreatDoorCards
import Derived.SevenTiedAt
namespace Go.Proofs.YtcplnkhdclcgfaaGreatDoor
set_option maxRecDepth 100000
set_option maxHeartbeats 4000000
open Go.RowKit Go.Deep
theorem OwnSys.inX {z : Bool} {w : World} {B : Nat} {y : Sy} {v : Value} (o : OwnSys z w B y v) : ∃ x : SysIn, v = x.v /\ x.y = y /\ SysG w x := by
 obtain ⟨x, e1, e2, h⟩ := o.sysT.x
 exact ⟨x, e1, e2, h.self⟩
theorem stepDLaw_small (a0 : Option Addr) (len cap : Nat) (w : World) (hl : len <= 1048576) (hB : BytesAt w w.heap.size a0 len) (hV : w.cell? ⟨0, 0, none⟩ = some (.iface 272 (.agg #[.pointer (some ⟨1, 172, none⟩)]))) :
  Calls Tryz.prog 3 #[.slice a0 len cap] w fun e w' => e = .returned (.bool true) /\ Below w.heap.size w w' := by
 have HB : Hid (BytesAt w w.heap.size a0 len) := hB
 have HV : Hid (∀ wx, Below w.heap.size w wx -> wx.cell? ⟨0, 0, none⟩ = some (.iface 272 (.agg #[.pointer (some ⟨1, 172, none⟩)]))) := fun wx hb => (hb.cell (p := ⟨0, 0, none⟩) (zJ w _ hV)).trans hV
 have hlt : ¬ (1048576 : Int) < (len : Int) := by omega
 clear hB hV
 go_enter Tryz.func3, Tryz.ntmps3
 go_wp2_with fail
 refine (big_any a0 len cap w).mono ?_
 rintro e w1 ⟨rfl, rfl⟩
 rw [decide_eq_false (show ¬ (1048576 : Int) < (len : Int) by omega)]
 go_wp2_with fail
 refine (DrawStep_any w1.heap.size len cap a0 w1 HB.out (Nat.le_refl _) hl).mono ?_
 rintro e w2 ⟨x, p, f, B, T, rfl, hm, hX, -, -, b2⟩
 have HM : Hid (x.Len /\ (∀ i, i < x.hn -> x.hL i <= x.hC i) /\ x.Nn false /\ x.y.Sm) := ⟨hm.inLen, hX.cap, hX.nn, hm⟩
 have K2 : Hid (WK w1 (w2.alloc (oQ4 x.pa x.pn x.pc x.sa x.sn x.sc x.wa x.wn x.wc x.ha x.hn x.hc)) w2.heap.size x) := ⟨hX.self.below (zQ _ _), BoxC.new _ _ _ _ _ _, b2.trans ((zQ _ _).mono b2.size)⟩
 clear hX b2 hm HB
 go_wp2_with fail
 generalize w2.alloc (oQ4 x.pa x.pn x.pc x.sa x.sn x.sc x.wa x.wn x.wc x.ha x.hn x.hc) = W2 at *
 generalize w2.heap.size = X at *
 clear w2
 refine (implStep_any x p f W2 K2.out.g HM.out.1 HM.out.2.2.1 (HV.out _ K2.out.be)).mono ?_
 rintro e w3 ⟨v3, rfl, o3, d3⟩
 obtain ⟨x', rfl, ey, g3⟩ := o3.inX
 have K3 : Hid (WK w1 (w3.alloc (oQ4 x'.pa x'.pn x'.pc x'.sa x'.sn x'.sc x'.wa x'.wn x'.wc x'.ha x'.hn x'.hc)) X x /\ WK w1 (w3.alloc (oQ4 x'.pa x'.pn x'.pc x'.sa x'.sn x'.sc x'.wa x'.wn x'.wc x'.ha x'.hn x'.hc)) w3.heap.size x' /\ x'.y = stY x.y p f) := ⟨(K2.out.below d3).below (zQ _ _), ⟨g3.below (zQ _ _), BoxC.new _ _ _ _ _ _, ((K2.out.below d3).below (zQ _ _)).be⟩, ey⟩
 clear o3 ey g3 d3 K2
 obtain ⟨C, hC⟩ : ∃ C, stC x.y p f = C := ⟨_, rfl⟩
 rw [hC]
 have HC : Hid (stC x.y p f = C) := hC
 clear hC
 obtain ⟨k0, k1, k2, k3⟩ := K3.out.1.bx
 go_wp2_with fail
 clear k0 k1 k2 k3
 generalize w3.alloc (oQ4 x'.pa x'.pn x'.pc x'.sa x'.sn x'.sc x'.wa x'.wn x'.wc x'.ha x'.hn x'.hc) = W3 at *
 generalize w3.heap.size = Y at *
 clear w3
 refine (specStep_any x p f W3 K3.out.1.g HM.out.1 HM.out.2.1).mono ?_
 rintro e w4 ⟨v4, rfl, o4, d4⟩
 rw [HC.out]
 obtain ⟨x2, rfl, -, -⟩ := o4.inX
 have K4 : Hid (WK w1 (w4.alloc (oQ4 x2.pa x2.pn x2.pc x2.sa x2.sn x2.sc x2.wa x2.wn x2.wc x2.ha x2.hn x2.hc)) X x /\ WK w1 (w4.alloc (oQ4 x2.pa x2.pn x2.pc x2.sa x2.sn x2.sc x2.wa x2.wn x2.wc x2.ha x2.hn x2.hc)) Y x' /\ x'.y = stY x.y p f) := ⟨(K3.out.1.below d4).below (zQ _ _), (K3.out.2.1.below d4).below (zQ _ _), K3.out.2.2⟩
 clear o4 d4 K3
 by_cases h0 : C = 0
 ·subst h0
  have hok : x.y.okB = true := by
   by_cases h : x.y.okB = true
   ·exact h
   ·have := HC.out
    rw [stC, if_neg h] at this
    cases this
  have hbp : belB p x.y.pn = true := by
   by_cases h : belB p x.y.pn = true
   ·exact h
   ·have := HC.out
    rw [stC, if_pos hok, if_neg h] at this
    cases this
  obtain ⟨P, rfl⟩ : ∃ P : Nat, p = (P : Int) := ⟨p.toNat, by
   simp only [belB, decide_eq_true_eq] at hbp
   omega⟩
  have hPn : P < x.pn := by
   simp only [belB, decide_eq_true_eq] at hbp
   have : (P : Int) < (x.pn : Int) := hbp.2
   omega
  have hcm : cmS x.y P f = 0 := by
   have := HC.out
   rw [stC, if_pos hok, if_pos hbp, Int.toNat_natCast] at this
   exact this
  have hO := Sy.ok_of hok
  have ey : x'.y = x.y.step P f := by
   rw [K4.out.2.2, stY, if_pos hok, if_pos hbp, Int.toNat_natCast]
  have HOK : Hid (x'.y.okB = true) := by
   show x'.y.okB = true
   rw [ey]
   exact Sy.okB_true (hO.step hPn hcm)
  have HSt : Hid ((x'.hn = x.hn /\ x'.sn = x.sn) /\ (∀ j, x'.hL j = if j = P then x.hL P + 1 else x.hL j) /\ (∀ j, j ≠ P -> x'.sS j = x.sS j) /\ x.hn = x.pn /\ x.sn = x.pn /\ x.hL P <= 1000 /\ ∀ j, j < x.hn -> x.hL j <= 1000) := by
   have e := ey
   rw [Sy.step, if_pos hcm] at e
   refine ⟨⟨congrArg (fun y : Sy => y.hn) e, congrArg (fun y : Sy => y.sn) e⟩, fun j => congrFun (congrArg (fun y : Sy => y.hL) e) j, fun j hj => ?_, hO.cn.2.2.1, hO.cn.2.1, HM.out.2.2.2.h P (by have : x.hn = x.pn := hO.cn.2.2.1; show P < x.hn; omega), fun j hj => HM.out.2.2.2.h j hj⟩
   have := congrFun (congrArg (fun y : Sy => y.sS) e) j
   exact this.trans (if_neg hj)
  have HLen : Hid x'.Len := by
   show x'.Len
   have := (hO.step hPn hcm).sm
   rw [<- ey] at this
   exact this.inLen
  clear hok hbp hcm ey HC hO
  go_upto_region 6 with fail
  generalize w4.alloc (oQ4 x2.pa x2.pn x2.pc x2.sa x2.sn x2.sc x2.wa x2.wn x2.wc x2.ha x2.hn x2.hc) = W4 at *
  obtain ⟨k0, k1, k2, k3⟩ := K4.out.1.bx
  obtain ⟨y0, y1, y2, y3⟩ := K4.out.2.1.bx
  go_wp2_with fail
  clear k0 k1 k2 k3 y0 y1 y2 y3
  have hnb : (x.hn : Int) <= 1048576 := by have := HM.out.1.h.1; omega
  go_loopw [10] (fun i wr => ∃ j : Nat, j <= x.hn /\ i = .int .i64 j /\ Hid (WK w1 wr X x /\ WK w1 wr Y x')) (fun i _ => x.hn - (intOf i).toNat)
  case atStart => exact ⟨0, Nat.zero_le _, rfl, K4.out.1, K4.out.2.1⟩
  case round =>
   obtain ⟨j, hj, rfl, HK⟩ := hrel
   obtain ⟨k0, k1, k2, k3⟩ := HK.out.1.bx
   obtain ⟨y0, y1, y2, y3⟩ := HK.out.2.bx
   have lX := HK.out.1.lt
   have lY := HK.out.2.lt
   by_cases hlt : j < x.hn
   ·have hlt' : (j : Int) < (x.hn : Int) := by omega
    have nlt : ¬ (x.hn : Int) <= (j : Int) := by omega
    have nlt2 : ¬ (x'.hn : Int) <= (j : Int) := by have := HSt.out.1.1; omega
    have hj2 : j < x'.hn := by have := HSt.out.1.1; omega
    obtain ⟨bh, oh, eh, ch⟩ := HK.out.1.g.h.at hlt
    obtain ⟨bg, og, eg, cg⟩ := HK.out.2.g.h.at (show j < x'.hn by have := HSt.out.1.1; omega)
    rw [eh] at k3
    rw [eg] at y3
    clear eh eg
    have eL := HSt.out.2.1 j
    have hm1 : x.hL j <= 1000 := HSt.out.2.2.2.2.2.2 j hlt
    by_cases hjP : j = P
    ·subst hjP
     rw [if_pos rfl] at eL
     have hd : ((x'.hL j : Nat) : Int) - (x.hL j : Int) = 1 := by omega
     have hm2 : x'.hL j <= 1001 := by omega
     clear eL
     generalize x'.hL j = m2 at *
     generalize x.hL j = m1 at *
     go_upto_region 13 with fail
     refine wp_region_G (fun w' => w'.cell? ⟨X, 3, none⟩ = some (.slice (some ⟨bh, oh, none⟩) x.hn x.hc) /\ w'.cell? ⟨Y, 3, none⟩ = some (.slice (some ⟨bg, og, none⟩) x'.hn x'.hc) /\ w'.cell? ⟨bh, oh + j, none⟩ = some (.slice (x.hA j) m1 (x.hC j)) /\ w'.cell? ⟨bg, og + j, none⟩ = some (.slice (x'.hA j) m2 (x'.hC j))) (fun _ => false) (by kernel_rfl) ?_
     have hHeld : (fun w' : World => w'.cell? ⟨X, 3, none⟩ = some (.slice (some ⟨bh, oh, none⟩) x.hn x.hc) /\ w'.cell? ⟨Y, 3, none⟩ = some (.slice (some ⟨bg, og, none⟩) x'.hn x'.hc) /\ w'.cell? ⟨bh, oh + j, none⟩ = some (.slice (x.hA j) m1 (x.hC j)) /\ w'.cell? ⟨bg, og + j, none⟩ = some (.slice (x'.hA j) m2 (x'.hC j))) wr.drew := ⟨k3, y3, ch, cg⟩
     refine wpGT_of [0, 1, 2, 3, 4, 5, 6, 7, 8, 9, 10, 11, 12, 13] ?_
     iterate 14 (refine wpGT_take rfl hHeld ?_; apply Exists.intro; refine ⟨fun wq hSw => ?_, ?_⟩; (· ((try dsimp only at hSw); go_simp; try with_reducible rfl)); (try simp only [Act.put, zD, zE, zF]))
     refine wpGT_nil ?_
     refine wpG_done (by kernel_rfl) ?_ _
     clear hHeld
     have HK' : Hid (WK w1 wr.drew X x /\ WK w1 wr.drew Y x') := ⟨HK.out.1.below (Below.refl _ _).drew, HK.out.2.below (Below.refl _ _).drew⟩
     clear HK k0 k1 k2 k3 y0 y1 y2 y3 ch cg lX lY
     generalize wr.drew = wr' at *
     go_upto_region 14 with fail
     refine wp_region_G (fun _ => True) (fun _ => false) (by kernel_rfl) ?_
     have hHeld : (fun _ : World => True) wr'.drew := trivial
     refine wpGT_of [0, 1, 2, 3, 4, 5, 6, 7, 8, 9, 10, 11] ?_
     iterate 12 (refine wpGT_take rfl hHeld ?_; apply Exists.intro; refine ⟨fun wq hSw => ?_, ?_⟩; (· ((try dsimp only at hSw); go_simp; try with_reducible rfl)); (try simp only [Act.put, zD, zE, zF]))
     refine wpGT_nil ?_
     refine wpG_skip 12 rfl ?_
     (try simp only [Act.put, zD, zE, zF])
     refine wpG_skip 13 rfl ?_
     (try simp only [Act.put, zD, zE, zF])
     refine wpG_skip 14 rfl ?_
     (try simp only [Act.put, zD, zE, zF])
     refine wpG_skip 15 rfl ?_
     (try simp only [Act.put, zD, zE, zF])
     refine wpG_skip 16 rfl ?_
     (try simp only [Act.put, zD, zE, zF])
     refine wpG_skip 17 rfl ?_
     (try simp only [Act.put, zD, zE, zF])
     refine wpG_skip 18 rfl ?_
     (try simp only [Act.put, zD, zE, zF])
     refine wpG_skip 19 rfl ?_
     (try simp only [Act.put, zD, zE, zF])
     refine wpG_skip 20 rfl ?_
     (try simp only [Act.put, zD, zE, zF])
     refine wpG_skip 21 rfl ?_
     (try simp only [Act.put, zD, zE, zF])
     refine wpG_skip 22 rfl ?_
     (try simp only [Act.put, zD, zE, zF])
     refine wpG_skip 23 rfl ?_
     (try simp only [Act.put, zD, zE, zF])
     refine wpG_skip 24 rfl ?_
     (try simp only [Act.put, zD, zE, zF])
     refine wpG_skip 25 rfl ?_
     (try simp only [Act.put, zD, zE, zF])
     refine wpG_skip 26 rfl ?_
     (try simp only [Act.put, zD, zE, zF])
     refine wpG_skip 27 rfl ?_
     (try simp only [Act.put, zD, zE, zF])
     refine wpGT_of [28, 29] ?_
     iterate 2 (refine wpGT_take rfl hHeld ?_; apply Exists.intro; refine ⟨fun wq hSw => ?_, ?_⟩; (· ((try dsimp only at hSw); go_simp; try with_reducible rfl)); (try simp only [Act.put, zD, zE, zF]))
     refine wpGT_nil ?_
     refine wpG_done (by kernel_rfl) ?_ _
     clear hHeld
     have HK2 : Hid (WK w1 wr'.drew X x /\ WK w1 wr'.drew Y x') := ⟨HK'.out.1.below (Below.refl _ _).drew, HK'.out.2.below (Below.refl _ _).drew⟩
     clear HK'
     go_wp2
     go_roundw
     case rel => exact ⟨j + 1, by omega, by go_num, HK2.out⟩
     case measure => simp [intOf]; omega
    ·rw [if_neg hjP] at eL
     have hjP' : ¬ (j : Int) = (P : Int) := by omega
     have hd : ((x'.hL j : Nat) : Int) - (x.hL j : Int) = 0 := by omega
     have hm2 : x'.hL j <= 1001 := by omega
     have eS : x'.sS j = x.sS j := HSt.out.2.2.1 j hjP
     have HES : Hid (x'.sS j = x.sS j) := eS
     clear eL eS
     generalize x'.hL j = m2 at *
     generalize x.hL j = m1 at *
     go_upto_region 13 with fail
     refine wp_region_G (fun w' => w'.cell? ⟨X, 3, none⟩ = some (.slice (some ⟨bh, oh, none⟩) x.hn x.hc) /\ w'.cell? ⟨Y, 3, none⟩ = some (.slice (some ⟨bg, og, none⟩) x'.hn x'.hc) /\ w'.cell? ⟨bh, oh + j, none⟩ = some (.slice (x.hA j) m1 (x.hC j)) /\ w'.cell? ⟨bg, og + j, none⟩ = some (.slice (x'.hA j) m2 (x'.hC j))) (fun _ => false) (by kernel_rfl) ?_
     have hHeld : (fun w' : World => w'.cell? ⟨X, 3, none⟩ = some (.slice (some ⟨bh, oh, none⟩) x.hn x.hc) /\ w'.cell? ⟨Y, 3, none⟩ = some (.slice (some ⟨bg, og, none⟩) x'.hn x'.hc) /\ w'.cell? ⟨bh, oh + j, none⟩ = some (.slice (x.hA j) m1 (x.hC j)) /\ w'.cell? ⟨bg, og + j, none⟩ = some (.slice (x'.hA j) m2 (x'.hC j))) wr.drew := ⟨k3, y3, ch, cg⟩
     refine wpGT_of [0, 1, 2, 3, 4, 5, 6, 7, 8, 9, 10, 11, 12, 13] ?_
     iterate 14 (refine wpGT_take rfl hHeld ?_; apply Exists.intro; refine ⟨fun wq hSw => ?_, ?_⟩; (· ((try dsimp only at hSw); go_simp; try with_reducible rfl)); (try simp only [Act.put, zD, zE, zF]))
     refine wpGT_nil ?_
     refine wpG_done (by kernel_rfl) ?_ _
     clear hHeld
     have HK' : Hid (WK w1 wr.drew X x /\ WK w1 wr.drew Y x') := ⟨HK.out.1.below (Below.refl _ _).drew, HK.out.2.below (Below.refl _ _).drew⟩
     clear HK k0 k1 k2 k3 y0 y1 y2 y3 ch cg lX lY nlt2 hj2
     generalize wr.drew = wr' at *
     obtain ⟨k0, k1, k2, k3⟩ := HK'.out.1.bx
     obtain ⟨y0, y1, y2, y3⟩ := HK'.out.2.bx
     have lX := HK'.out.1.lt
     have lY := HK'.out.2.lt
     have hsn : j < x.sn := by have := HSt.out; omega
     have hsn' : j < x'.sn := by have := HSt.out; omega
     have nls : ¬ (x.sn : Int) <= (j : Int) := by omega
     have nls' : ¬ (x'.sn : Int) <= (j : Int) := by omega
     have hls : (j : Int) < (x.sn : Int) := by omega
     have hls' : (j : Int) < (x'.sn : Int) := by omega
     obtain ⟨b, off, ea, lb, ck⟩ := HK'.out.1.g.s.row.resolve_left (by omega)
     obtain ⟨b', off', ea', lb', ck'⟩ := HK'.out.2.g.s.row.resolve_left (by omega)
     have ck := ck j hsn
     have ck' := ck' j hsn'
     have E0 := HK'.out.1.g.s.lst j hsn
     have E1 := HK'.out.2.g.s.lst j hsn'
     have hb := HM.out.1.s.2 j hsn
     obtain ⟨e1, e2, e3, e4⟩ : (x'.sQ j).p = (x.sQ j).p /\ (x'.sQ j).rs = (x.sQ j).rs /\ (x'.sQ j).os = (x.sQ j).os /\ (x'.sQ j).c = (x.sQ j).c := ⟨congrArg S4.p HES.out, congrArg S4.rs HES.out, congrArg S4.os HES.out, congrArg S4.c HES.out⟩
     rw [e1, e2, e3, e4] at ck'
     rw [e2, e3] at E1
     clear HES
     generalize (x.sQ j).p = p at *
     generalize (x.sQ j).c = cd at *
     generalize (x.sQ j).rs = rs at *
     generalize (x.sQ j).os = os at *
     generalize (x.sQ j).ra = ra at *
     generalize (x.sQ j).rc = rc at *
     generalize (x.sQ j).oa = oa at *
     generalize (x.sQ j).oc = oc at *
     generalize (x'.sQ j).ra = ra' at *
     generalize (x'.sQ j).rc = rc' at *
     generalize (x'.sQ j).oa = oa' at *
     generalize (x'.sQ j).oc = oc' at *
     obtain ⟨s0, s1, s2, s3⟩ := ck
     obtain ⟨t0, t1, t2, t3⟩ := ck'
     have E : Hid ((Sl wr' ra rs /\ Sl wr' oa os) /\ (Sl wr' ra' rs /\ Sl wr' oa' os) /\ rs.length <= 1048576 /\ os.length <= 1048576) := ⟨E0, E1, hb⟩
     rw [ea] at k1
     rw [ea'] at y1
     clear ea ea' e1 e2 e3 e4 E0 E1 hb
     go_upto_region 14 with fail
     have q0 : Below wr'.heap.size wr' wr'.drew := (Below.refl wr'.heap.size wr').drew
     refine wp_region_G (fun w' => w'.cell? ⟨X, 1, none⟩ = some (.slice (some ⟨b, off, none⟩) x.sn x.sc) /\ w'.cell? ⟨Y, 1, none⟩ = some (.slice (some ⟨b', off', none⟩) x'.sn x'.sc) /\ (w'.cell? ⟨b, off + j * 4, none⟩ = some (.int .i64 p) /\ w'.cell? ⟨b, off + j * 4 + 1, none⟩ = some (.slice ra rs.length rc) /\ w'.cell? ⟨b, off + j * 4 + 2, none⟩ = some (.slice oa os.length oc) /\ w'.cell? ⟨b, off + j * 4 + 3, none⟩ = some (.int .i64 cd)) /\ (w'.cell? ⟨b', off' + j * 4, none⟩ = some (.int .i64 p) /\ w'.cell? ⟨b', off' + j * 4 + 1, none⟩ = some (.slice ra' rs.length rc') /\ w'.cell? ⟨b', off' + j * 4 + 2, none⟩ = some (.slice oa' os.length oc') /\ w'.cell? ⟨b', off' + j * 4 + 3, none⟩ = some (.int .i64 cd))) (fun _ => false) (by kernel_rfl) ?_
     have hHeld : (fun w' : World => w'.cell? ⟨X, 1, none⟩ = some (.slice (some ⟨b, off, none⟩) x.sn x.sc) /\ w'.cell? ⟨Y, 1, none⟩ = some (.slice (some ⟨b', off', none⟩) x'.sn x'.sc) /\ (w'.cell? ⟨b, off + j * 4, none⟩ = some (.int .i64 p) /\ w'.cell? ⟨b, off + j * 4 + 1, none⟩ = some (.slice ra rs.length rc) /\ w'.cell? ⟨b, off + j * 4 + 2, none⟩ = some (.slice oa os.length oc) /\ w'.cell? ⟨b, off + j * 4 + 3, none⟩ = some (.int .i64 cd)) /\ (w'.cell? ⟨b', off' + j * 4, none⟩ = some (.int .i64 p) /\ w'.cell? ⟨b', off' + j * 4 + 1, none⟩ = some (.slice ra' rs.length rc') /\ w'.cell? ⟨b', off' + j * 4 + 2, none⟩ = some (.slice oa' os.length oc') /\ w'.cell? ⟨b', off' + j * 4 + 3, none⟩ = some (.int .i64 cd))) wr'.drew := ⟨(q0.cell (p := ⟨X, 1, none⟩) lX).trans k1, (q0.cell (p := ⟨Y, 1, none⟩) lY).trans y1, ⟨(q0.cell (p := ⟨b, _, none⟩) lb).trans s0, (q0.cell (p := ⟨b, _, none⟩) lb).trans s1, (q0.cell (p := ⟨b, _, none⟩) lb).trans s2, (q0.cell (p := ⟨b, _, none⟩) lb).trans s3⟩, ⟨(q0.cell (p := ⟨b', _, none⟩) lb').trans t0, (q0.cell (p := ⟨b', _, none⟩) lb').trans t1, (q0.cell (p := ⟨b', _, none⟩) lb').trans t2, (q0.cell (p := ⟨b', _, none⟩) lb').trans t3⟩⟩
     refine wpGT_of [0, 1] ?_
     iterate 2 (refine wpGT_take rfl hHeld ?_; apply Exists.intro; refine ⟨fun wq hSw => ?_, ?_⟩; (· ((try dsimp only at hSw); go_simp; try with_reducible rfl)); (try simp only [Act.put, zD, zE, zF]))
     refine wpGT_nil ?_
     refine wpG_take 2 rfl hHeld ⟨.bool false, fun wq hSw => ?_, ?_⟩
     ·first | (go_simp; done) | (go_simp; omega) | (go_simp; simp [hjP'])
     (try simp only [Act.put, zD, zE, zF])
     refine wpG_take 3 rfl hHeld ?_
     apply Exists.intro
     refine ⟨fun wq hSw => ?_, ?_⟩
     ·(try dsimp only at hSw)
      go_simp
      try with_reducible rfl
     (try simp only [Act.put, zD, zE, zF])
     refine wpG_skip 4 rfl ?_
     (try simp only [Act.put, zD, zE, zF])
     refine wpG_skip 5 rfl ?_
     (try simp only [Act.put, zD, zE, zF])
     refine wpGT_of [6, 7, 8, 9] ?_
     iterate 4 (refine wpGT_take rfl hHeld ?_; apply Exists.intro; refine ⟨fun wq hSw => ?_, ?_⟩; (· ((try dsimp only at hSw); go_simp; try with_reducible rfl)); (try simp only [Act.put, zD, zE, zF]))
     refine wpGT_nil ?_
     refine wpG_take 10 rfl hHeld ⟨.bool true, fun wq hSw => ?_, ?_⟩
     ·first | (go_simp; done) | (go_simp; omega) | (go_simp; simp [hjP'])
     (try simp only [Act.put, zD, zE, zF])
     refine wpGT_of [11, 12, 13, 14, 15, 16, 17, 18, 19, 20, 21, 22, 23, 24] ?_
     iterate 14 (refine wpGT_take rfl hHeld ?_; apply Exists.intro; refine ⟨fun wq hSw => ?_, ?_⟩; (· ((try dsimp only at hSw); go_simp; try with_reducible rfl)); (try simp only [Act.put, zD, zE, zF]))
     refine wpGT_nil ?_
     refine wpG_one 25 rfl (by kernel_rfl) (fun K hK => ?_)
     refine stepR_callD rfl 15 _ _ rfl #[stV p ra rs.length rc oa os.length oc cd, stV p ra' rs.length rc' oa' os.length oc' cd] (by simp [Act.eval, stV]) (yA Tryz.func15 (by kernel_rfl) rfl) (sameState_same p cd ra oa ra' oa' rc oc rc' oc' rs os wr'.drew E.out.2.2.1 E.out.2.2.2 (E.out.1.1.below q0) (E.out.1.2.below q0) (E.out.2.1.1.below q0) (E.out.2.1.2.below q0)) ?_
     rintro e w5 ⟨rfl, d5⟩
     refine ⟨_, rfl, ?_⟩
     have q5 : Below wr'.heap.size wr' w5 := q0.trans (d5.mono q0.size)
     have hHeld5 : (fun w' : World => w'.cell? ⟨X, 1, none⟩ = some (.slice (some ⟨b, off, none⟩) x.sn x.sc) /\ w'.cell? ⟨Y, 1, none⟩ = some (.slice (some ⟨b', off', none⟩) x'.sn x'.sc) /\ (w'.cell? ⟨b, off + j * 4, none⟩ = some (.int .i64 p) /\ w'.cell? ⟨b, off + j * 4 + 1, none⟩ = some (.slice ra rs.length rc) /\ w'.cell? ⟨b, off + j * 4 + 2, none⟩ = some (.slice oa os.length oc) /\ w'.cell? ⟨b, off + j * 4 + 3, none⟩ = some (.int .i64 cd)) /\ (w'.cell? ⟨b', off' + j * 4, none⟩ = some (.int .i64 p) /\ w'.cell? ⟨b', off' + j * 4 + 1, none⟩ = some (.slice ra' rs.length rc') /\ w'.cell? ⟨b', off' + j * 4 + 2, none⟩ = some (.slice oa' os.length oc') /\ w'.cell? ⟨b', off' + j * 4 + 3, none⟩ = some (.int .i64 cd))) w5 := ⟨(q5.cell (p := ⟨X, 1, none⟩) lX).trans k1, (q5.cell (p := ⟨Y, 1, none⟩) lY).trans y1, ⟨(q5.cell (p := ⟨b, _, none⟩) lb).trans s0, (q5.cell (p := ⟨b, _, none⟩) lb).trans s1, (q5.cell (p := ⟨b, _, none⟩) lb).trans s2, (q5.cell (p := ⟨b, _, none⟩) lb).trans s3⟩, ⟨(q5.cell (p := ⟨b', _, none⟩) lb').trans t0, (q5.cell (p := ⟨b', _, none⟩) lb').trans t1, (q5.cell (p := ⟨b', _, none⟩) lb').trans t2, (q5.cell (p := ⟨b', _, none⟩) lb').trans t3⟩⟩
     refine hK.out _ _ (fun _ => hHeld5) ?_
     clear hHeld
     have hHeld := hHeld5
     clear hHeld5 d5 hK K
     (try simp only [Act.put, zD, zE, zF])
     refine wpGT_of [26, 27, 28, 29] ?_
     iterate 4 (refine wpGT_take rfl hHeld ?_; apply Exists.intro; refine ⟨fun wq hSw => ?_, ?_⟩; (· ((try dsimp only at hSw); go_simp; try with_reducible rfl)); (try simp only [Act.put, zD, zE, zF]))
     refine wpGT_nil ?_
     refine wpG_done (by kernel_rfl) ?_ _
     have HK2 : Hid (WK w1 w5 X x /\ WK w1 w5 Y x') := ⟨HK'.out.1.below q5, HK'.out.2.below q5⟩
     clear hHeld q5 q0 HK' E k0 k1 k2 k3 y0 y1 y2 y3 s0 s1 s2 s3 t0 t1 t2 t3 lb lb' lX lY nls nls' hls hls' hsn hsn'
     go_wp2
     go_roundw
     case rel => exact ⟨j + 1, by omega, by go_num, HK2.out⟩
     case measure => simp [intOf]; omega
   ·have nlt : ¬ (j : Int) < (x.hn : Int) := by omega
    go_wp2_with fail
    refine (implSysOk_any x' wr HK.out.2.g HLen.out (HV.out _ HK.out.2.be)).mono ?_
    rintro e w6 ⟨rfl, d6⟩
    rw [HOK.out]
    have K6 : Hid (Below w1.heap.size w1 w6) := (HK.out.2.below d6).be
    clear d6 HK
    go_wp2
    go_ret
    exact ⟨rfl, K6.out⟩
 ·by_cases hok : x.y.okB = true
  ·have HYE : Hid (x'.y = x.y) := by
    show x'.y = x.y
    rw [K4.out.2.2, stY, if_pos hok]
    split
    ·rename_i hb
     refine Sy.step_no fun hc => h0 ?_
     rw [<- HC.out, stC, if_pos hok, if_pos hb, hc]
    ·rfl
   have hpn : ¬ x.pn = 0 := by
    have := (Sy.ok_of hok).cn.1.1
    have : 1 <= x.pn := this
    omega
   have hpn' : ¬ (x.pn : Int) = 0 := by omega
   have epn : x'.pn = x.pn := congrArg (fun y : Sy => y.pn) HYE.out
   obtain ⟨k0, k1, k2, k3⟩ := K4.out.1.bx
   obtain ⟨y0, y1, y2, y3⟩ := K4.out.2.1.bx
   rw [<- epn] at hpn hpn'
   clear epn hok HC
   by_cases h1 : C = 1
   ·subst h1
    go_upto_region 6 with fail
    generalize w4.alloc (oQ4 x2.pa x2.pn x2.pc x2.sa x2.sn x2.sc x2.wa x2.wn x2.wc x2.ha x2.hn x2.hc) = W4 at *
    go_wp2_with fail
    clear k0 k1 k2 k3 y0 y1 y2 y3
    refine (sameHist_same x x' W4 HYE.out K4.out.1.g K4.out.2.1.g HM.out.1).mono ?_
    rintro e w5 ⟨rfl, d5⟩
    have K5 : Hid (WK w1 w5 X x /\ WK w1 w5 Y x') := ⟨K4.out.1.below d5, K4.out.2.1.below d5⟩
    clear d5 K4
    obtain ⟨k0, k1, k2, k3⟩ := K5.out.1.bx
    obtain ⟨y0, y1, y2, y3⟩ := K5.out.2.bx
    go_wp2_with fail
    clear k0 k1 k2 k3 y0 y1 y2 y3
    refine (sameStates_same x x' w5 HYE.out K5.out.1.g K5.out.2.g HM.out.1).mono ?_
    rintro e w6 ⟨rfl, d6⟩
    have K6 : Hid (Below w1.heap.size w1 w6) := (K5.out.1.below d6).be
    clear d6 K5
    go_wp2
    go_ret
    exact ⟨rfl, K6.out⟩
   ·go_upto_region 6 with fail
    generalize w4.alloc (oQ4 x2.pa x2.pn x2.pc x2.sa x2.sn x2.sc x2.wa x2.wn x2.wc x2.ha x2.hn x2.hc) = W4 at *
    go_wp2_with fail
    clear k0 k1 k2 k3 y0 y1 y2 y3
    refine (sameHist_same x x' W4 HYE.out K4.out.1.g K4.out.2.1.g HM.out.1).mono ?_
    rintro e w5 ⟨rfl, d5⟩
    have K5 : Hid (WK w1 w5 X x /\ WK w1 w5 Y x') := ⟨K4.out.1.below d5, K4.out.2.1.below d5⟩
    clear d5 K4
    obtain ⟨k0, k1, k2, k3⟩ := K5.out.1.bx
    obtain ⟨y0, y1, y2, y3⟩ := K5.out.2.bx
    go_wp2_with fail
    clear k0 k1 k2 k3 y0 y1 y2 y3
    refine (sameStates_same x x' w5 HYE.out K5.out.1.g K5.out.2.g HM.out.1).mono ?_
    rintro e w6 ⟨rfl, d6⟩
    have K6 : Hid (Below w1.heap.size w1 w6) := (K5.out.1.below d6).be
    clear d6 K5
    go_wp2
    go_ret
    exact ⟨rfl, K6.out⟩
  ·have h1 : C = 1 := by rw [<- HC.out, stC, if_neg hok]
   subst h1
   have epn : x'.pn = 0 := by
    have e := congrArg (fun y : Sy => y.pn) K4.out.2.2
    rw [stY, if_neg hok] at e
    exact e
   obtain ⟨y0, -, -, -⟩ := K4.out.2.1.bx
   rw [epn] at y0
   clear epn hok HC h0
   go_upto_region 6 with fail
   generalize w4.alloc (oQ4 x2.pa x2.pn x2.pc x2.sa x2.sn x2.sc x2.wa x2.wn x2.wc x2.ha x2.hn x2.hc) = W4 at *
   go_wp2
   go_ret
   exact ⟨rfl, K4.out.1.be⟩
theorem stepDLaw_great (a0 : Option Addr) (len cap : Nat) (w : World) (_hm : len <= maxLen) (hl : 1048576 < len) :
  Calls Tryz.prog 3 #[.slice a0 len cap] w fun e w' => e = .returned (.bool true) /\ Below w.heap.size w w' := by
 go_enter Tryz.func3, Tryz.ntmps3
 go_wp2_with fail
 refine (big_any a0 len cap w).mono ?_
 rintro e w1 ⟨rfl, rfl⟩
 rw [decide_eq_true (show (1048576 : Int) < (len : Int) by omega)]
 go_wp2
 go_ret
 exact ⟨rfl, Below.refl _ _⟩
open Go.ChangeShapes Go.WideShapes Go.ChangeAt
theorem stepDLifted (os : Os) (started : os.Started) (H : Type) (enc : TypeId × Value -> H) :
  ReturnsInHanded {} Tryz.checked os 3 .any (fun w args => (Rows.fnStepSpec.pre enc Tryz.prog Tryz.f3 [] false w args /\ laidMetH Tryz.prog [("errors.errorType", Rows.laid_errors_errorType)] w) /\ sizedMet enc Tryz.prog Tryz.f3 (OpenSpec.ofChange Rows.fnStepSpec) false w args)
   (Rows.fnStepSpec.post enc Tryz.prog Tryz.f3 false true false false) := by
 refine returnsInHanded_of_change_and (C := Tryz.checked) (X := fun w _ => laidMetH Tryz.prog [("errors.errorType", Rows.laid_errors_errorType)] w) (fun _ _ _ hh h => h.of_heap hh) Tryz.own started (by kernel_rfl) Tryz.func3
  (ChangeSpec.witness_at (enc := enc) (C := Tryz.checked) (os := os) (X := fun w _ => laidMetH Tryz.prog [("errors.errorType", Rows.laid_errors_errorType)] w) false (laidWorld os) #[.slice none 0 0] 8 rfl (by kernel_rfl) (by kernel_rfl) (by kernel_rfl) (by kernel_rfl) (by kernel_rfl) (laidWorld_met os _)) ?_
 intro W base args ds gs before hval0 hW _ _ hL _
 have hval : ∀ (j : Nat) t v, Tryz.f3.params[j]? = some t -> args[j]? = some v -> Value.okWide Tryz.prog W .any base t v := hval0
 have hW' := hW
 obtain ⟨p, q, hA0, hV, rfl, hfz, hnd⟩ := hW
 have hA : DataW.TrodAll enc Tryz.prog W 0 (fun _ => true) true Tryz.f3.params.toList args.toList ds p := hA0
 rw [Tryz.params3] at hA hval
 obtain ⟨v0, d0, rfl, rfl, h0⟩ := trodAll_one hA
 obtain ⟨rfl, rfl⟩ := trodVars_none hV
 have lt0 : ∀ x ∈ p, x.block < W.heap.size := by obtain ⟨m, hm⟩ := h0; exact DataW.trod_lt m _ _ _ hm
 have hg := handle_of_laid hL
 clear hA0 hval0
 have hlaw : Calls Tryz.prog 3 #[v0] W fun e w' => e = .returned (.bool true) /\ Below W.heap.size W w' := by
  obtain ⟨a0, len, cap, rfl⟩ := okWide_slice Tryz.underlying22 (hval 0 22 v0 rfl rfl)
  obtain ⟨hm, hB⟩ := open_bytes h0
  by_cases hs : len <= 1048576
  ·exact stepDLaw_small a0 len cap W hs hB hg
  ·exact stepDLaw_great a0 len cap W hm (by omega)
 refine hlaw.mono fun e W' ⟨he, bel⟩ => ?_
 subst he
 exact ⟨_, rfl, _, _, _, [], _, [], hW', trodAll_mk1 (shut_bool Tryz.underlying4 _), trodAll_mk1 (Below.trod Tryz.laidOut (by kernel_rfl) (of_decide_eq_true (by kernel_rfl)) h0 bel lt0), rfl, bel.frame _, fun h => by cases h⟩
theorem stepDSaid : Rows.FnStepSaid :=
 OpenClaim.holds_of_wide 3 Tryz.f3 rfl rfl rfl rfl rfl rfl rfl ⟨rfl, rfl, rfl, rfl, rfl⟩ rfl rfl rfl rfl rfl (by kernel_rfl) Tryz.func3 (by kernel_rfl)
  (of_decide_eq_true (by kernel_rfl)) (by unfold Func.isWrapper; first | (rw [if_pos (by decide +kernel)]; kernel_rfl) | (rw [if_neg (by decide +kernel)]; exact ⟨rfl, rfl⟩))
  (fun os started H enc _ => stepDLifted os started H enc)
theorem stepDPlain (f : FuncId) (fn : Func) (hf : Tryz.pinned.checked.prog.funcNamed "loop.example/g00196/laws.FnStep" = some f) (hfn : Tryz.pinned.checked.prog.funcs[f]? = some fn) :
  true = Tryz.pinned.checked.prog.looks [] /\ ∀ (j : Nat) t, fn.params[j]? = some t -> Tryz.pinned.checked.prog.wantsStandIn t = false := by
 obtain rfl : f = 3 := Option.some.inj ((show Tryz.prog.funcNamed "loop.example/g00196/laws.FnStep" = some 3 by kernel_rfl).symm.trans hf) |>.symm
 obtain rfl : fn = Tryz.f3 := (Option.some.inj (Tryz.func3.symm.trans hfn)).symm
 refine ⟨by kernel_rfl, fun j t ht => ?_⟩
 rw [Tryz.params3] at ht
 have hm := Array.mem_of_getElem? ht
 simp at hm
 obtain rfl := hm
 exact (show Tryz.prog.wantsStandIn 22 = false by kernel_rfl)
theorem stepD_card : Rows.FnStepCardSaid :=
 Claim7.holds_tied_plain_at .later [] _ _ _ _ stepDSaid (fun _ h => by cases h) (by kernel_rfl) (fun _ h => by cases h) fnStep_row_tie rfl ⟨rfl, rfl⟩ (by kernel_rfl) rfl stepDPlain (by kernel_rfl)
end Go.Proofs.YtcplnkhdclcgfaaGreatDoor
