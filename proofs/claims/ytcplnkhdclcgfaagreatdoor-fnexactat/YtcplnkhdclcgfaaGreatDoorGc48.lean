/- The walk of the model's At of any cut. -/
import Derived.Test.YtcplnkhdclcgfaaGreatDoorGc0
import Derived.Test.YtcplnkhdclcgfaaGreatDoorGc47
import Derived.Test.YtcplnkhdclcgfaaGreatDoorGc36
import Derived.Test.YtcplnkhdclcgfaaGreatDoorGc33
import Derived.Test.YtcplnkhdclcgfaaGreatDoorGc42
import Derived.Deep.Cut
import Derived.Test.YtcplnkhdclcgfaaGreatDoorGc40
import Derived.Test.YtcplnkhdclcgfaaGreatDoorGc44
import Derived.Deep.RegionWith
import Derived.Deep.RegionLaw
import Derived.BigQuiet
namespace Go.Proofs.YtcplnkhdclcgfaaGreatDoor
set_option maxRecDepth 100000
set_option maxHeartbeats 4000000
open Go.ChangeShapes Go.WideShapes Go.ChangeAt Go.RowKit Go.Deep
theorem AtP.start {z : Bool} {B m3 m1 : Nat} {w3 w1 : World} {y : Sy} {vp vw : Value} {up uw : Nat → Value} (o3 : LT z w3 (fun k => m3 ≤ k ∧ k < w3.heap.size) vw y.wn uw y.wL y.wH) (o1 : LI z w1 (fun k => m1 ≤ k ∧ k < w1.heap.size) vp y.pn up y.pL y.pH) (hb : Below w3.heap.size w3 w1) (h1 : w3.heap.size ≤ m1) (hB : B ≤ m3) (h3 : m3 ≤ w3.heap.size) :
  ∃ c, AtP z B w1.heap.size c { y with sn := 0, hn := 0 } (w1.alloc (.cells #[vp, .slice none 0 0, vw, .slice none 0 0] 29)) vp (.slice none 0 0) vw (.slice none 0 0) up (fun _ => .slice none 0 0) uw (fun _ => .slice none 0 0) := by
 have hs := hb.size
 have ba := below_allocL w1 (.cells #[vp, .slice none 0 0, vw, .slice none 0 0] 29)
 refine ⟨fun k => if k = w1.heap.size then 0 else if k < w3.heap.size then 3 else 1, BoxC.new w1 _ _ _ _ _, fun j => new_frozen _ _ _ _ rfl, if_pos rfl, by omega, ?_, LS.nil _ _ _ _, ?_, LL.nil _ _ _ _ _ _ _ _⟩
 ·refine (o1.mono fun k hk _ => ⟨by omega, ?_⟩).below ba
  show (if k = w1.heap.size then 0 else if k < w3.heap.size then 3 else 1) = 1
  rw [if_neg (by omega), if_neg (by omega)]
 ·refine ((o3.mono fun k hk _ => ⟨by omega, ?_⟩).below hb).below ba
  show (if k = w1.heap.size then 0 else if k < w3.heap.size then 3 else 1) = 3
  rw [if_neg (by omega), if_pos (by omega)]
theorem implAt_any (x : SysIn) (ca : Option Addr) (cc : Nat) (c : List Int) (w : World) (hG : SysG w x) (hL : x.Len) (hcap : ∀ i, i < x.hn → x.hL i ≤ x.hC i) (hc : Sl w ca c) (hcl : c.length ≤ 1048576) (hV : w.cell? ⟨0, 0, none⟩ = some (.iface 272 (.agg #[.pointer (some ⟨1, 172, none⟩)]))) :
  Calls Tryz.prog 21 #[x.v, .slice ca c.length cc] w fun e w' => ∃ v, e = .returned (.tuple #[v, .bool (atB x.y c)]) ∧ OwnSys true w' w.heap.size (atS x.y c) v ∧ Below w.heap.size w w' := by
 have HVx : Hid (∀ wx, Below w.heap.size w wx → wx.cell? ⟨0, 0, none⟩ = some (.iface 272 (.agg #[.pointer (some ⟨1, 172, none⟩)]))) := fun wx hb => (hb.cell (p := ⟨0, 0, none⟩) (World.block_lt_of_cell? w _ hV)).trans hV
 have HS : Hid (∀ wx, Below w.heap.size w wx → Calls Tryz.prog 65 #[x.v, .slice ca c.length cc] wx fun e w' => e = .returned (.bool (whB x.y c)) ∧ Below wx.heap.size wx w') := fun wx hb => implWhole_any x ca cc c wx (hG.below hb) hL hcap (hc.below hb) hcl (HVx.out wx hb)
 have BW : Hid (Below w.heap.size w ((w.alloc (oQ4 x.pa x.pn x.pc x.sa x.sn x.sc x.wa x.wn x.wc x.ha x.hn x.hc)).alloc (zQ2))) := (below_allocL _ _).trans ((below_allocL _ _).mono (by simp))
 have NB : Hid (BoxC ((w.alloc (oQ4 x.pa x.pn x.pc x.sa x.sn x.sc x.wa x.wn x.wc x.ha x.hn x.hc)).alloc (zQ2)) w.heap.size (.slice x.pa x.pn x.pc) (.slice x.sa x.sn x.sc) (.slice x.wa x.wn x.wc) (.slice x.ha x.hn x.hc)) := (BoxC.new w _ _ _ _ _).below (below_allocL _ _)
 have RB : Hid (BoxC ((w.alloc (oQ4 x.pa x.pn x.pc x.sa x.sn x.sc x.wa x.wn x.wc x.ha x.hn x.hc)).alloc (zQ2)) (w.heap.size + 1) (.slice none 0 0) (.slice none 0 0) (.slice none 0 0) (.slice none 0 0) ∧ ∀ j, ((w.alloc (oQ4 x.pa x.pn x.pc x.sa x.sn x.sc x.wa x.wn x.wc x.ha x.hn x.hc)).alloc (zQ2)).frozen? ⟨w.heap.size + 1, j, none⟩ = false) := ⟨⟨new_cell _ _ _ 0 (by simp), new_cell _ _ _ 1 (by simp), new_cell _ _ _ 2 (by simp), new_cell _ _ _ 3 (by simp)⟩, fun j => new_frozen _ _ _ _ (by simp)⟩
 have hM : w.heap.size ≤ w.heap.size + 1 := Nat.le_succ _
 have HG : Hid (SysG w x) := hG
 have HL : Hid x.Len := hL
 have HQ : Hid ((∀ i, i < x.hn → x.hL i ≤ x.hC i) ∧ Sl w ca c) := ⟨hcap, hc⟩
 clear hG hL hcap hc hV
 go_enter Tryz.func21, Tryz.ntmps21
 go_wp2_with fail
 generalize (w.alloc (oQ4 x.pa x.pn x.pc x.sa x.sn x.sc x.wa x.wn x.wc x.ha x.hn x.hc)).alloc (zQ2) = W2 at *
 refine (HS.out W2 BW.out).mono ?_
 rintro e w1 ⟨rfl, q1⟩
 have B1 : Hid (Below w.heap.size w w1 ∧ BoxC w1 w.heap.size (.slice x.pa x.pn x.pc) (.slice x.sa x.sn x.sc) (.slice x.wa x.wn x.wc) (.slice x.ha x.hn x.hc) ∧ BoxC w1 (w.heap.size + 1) (.slice none 0 0) (.slice none 0 0) (.slice none 0 0) (.slice none 0 0) ∧ ∀ j, w1.frozen? ⟨w.heap.size + 1, j, none⟩ = false) := ⟨BW.out.trans (q1.mono BW.out.size), NB.out.below q1, RB.out.1.below q1, fun j => ((bcell q1).2 _ j (World.block_lt_of_cell? _ _ RB.out.1.1)).trans (RB.out.2 j)⟩
 clear q1 BW NB RB HS
 have l1 : w.heap.size + 1 < w1.heap.size := World.block_lt_of_cell? _ _ B1.out.2.2.1.1
 obtain ⟨b0, b1, b2, b3⟩ := B1.out.2.1
 rcases Bool.eq_false_or_eq_true (whB x.y c) with t | t
 case inr =>
  have HV : Hid (atB x.y c = false ∧ atS x.y c = x.y.nil) := ⟨by show atB x.y c = false; unfold atB; rw [t]; rfl, if_neg (by rw [t]; simp)⟩
  obtain ⟨⟨r0, r1, r2, r3⟩, rf⟩ := B1.out.2.2
  rw [t]
  clear t
  go_wp2
  exact bodyPost_ret (v := .tuple #[sysV none 0 0 none 0 0 none 0 0 none 0 0, .bool false]) (by simp [results, Tryz.results21, go_sem, r0, r1, r2, r3]) rfl ⟨_, by rw [HV.out.1], by rw [HV.out.2]; exact OwnSys.zero _ _ _, (((B1.out.1.setCell hM _).setCell hM _).setCell hM _).setCell hM _⟩
 obtain ⟨hcu, hwh⟩ := whB_parts t
 obtain ⟨hO, hC⟩ := cutB_parts hcu
 have HO : Hid (x.y.Ok ∧ x.y.Cut c ∧ x.y.Wh (cN c)) := ⟨hO, hC, hwh⟩
 have hln : c.length = x.pn := hC.len
 have h4 : x.pn ≤ 4 := hO.cn.1.2
 have hhn : x.hn = x.pn := hO.cn.2.2.1
 have HN : Hid (c.length = x.pn ∧ x.hn = x.pn ∧ x.pn ≤ 4) := ⟨hln, hhn, h4⟩
 have HAT : Hid (atB x.y c = wfB (x.y.ah (cN c)) ∧ atS x.y c = x.y.atW (cN c)) := ⟨by show atB x.y c = _; unfold atB; rw [t]; rfl, if_pos t⟩
 have eah : x.y.ah (cN c) = x.y.at c := by
  unfold Sy.ah Sy.at
  rw [hln]
  rfl
 have HH : Hid (∀ wx, Below w.heap.size w wx → Calls Tryz.prog 66 #[x.v, .slice ca c.length cc] wx fun e w' => ∃ ha hc, e = .returned (.agg (hcL ha c.length hc).toArray) ∧ RowS w' ha c.length (fun i => .slice (x.hA i) (cN c i) (cN c i)) ∧ Below wx.heap.size wx w') := fun wx hb => historyAt_any x ca cc c wx (HG.out.below hb) HQ.out.1 hhn h4 hC (HQ.out.2.below hb)
 have HE : Hid (∀ wx ha, Below w.heap.size w wx → RowS wx ha c.length (fun i => .slice (x.hA i) (cN c i) (cN c i)) → HisE wx ha x.hA (cN c) (x.y.at c)) := fun wx ha hb hr => hisE_at HG.out hb hC hhn hr
 have HW : Hid (∀ wx X ha hc, Below w.heap.size w wx → wx.cell? ⟨X, 0, none⟩ = some (.slice ha c.length hc) → RowS wx ha c.length (fun i => .slice (x.hA i) (cN c i) (cN c i)) → Calls Tryz.prog 67 #[.pointer (some ⟨X, 0, none⟩)] wx fun e w' => ∃ v u, e = .returned (.tuple #[v, .bool (wfB (x.y.ah (cN c)))]) ∧ (wfB (x.y.ah (cN c)) = true → LT true w' (fun k => wx.heap.size ≤ k ∧ k < w'.heap.size) v (x.y.atY (cN c)).wn u (x.y.atY (cN c)).wL (x.y.atY (cN c)).wH) ∧ Below wx.heap.size wx w') := fun wx X ha hc' hb hcell hr => by
  have h := waysAt_any X hc' ha x.hA (cN c) (x.y.at c) wx hcell (HE.out wx ha hb hr) (fun i hi => Nat.le_trans (hC.leN (by have h2 : i < c.length := hi; show i < x.pn; omega)) (hO.hl200 (by have h2 : i < c.length := hi; show i < x.pn; omega))) (by show c.length ≤ 4; omega) (fun a ha b hb => hwh a (by have h2 : a < c.length := ha; show a < x.pn; omega) b (by have h2 : b < c.length := hb; show b < x.pn; omega))
  rw [← eah] at h
  exact h
 have HP : Hid (∀ wx, Below w.heap.size w wx → Calls Tryz.prog 68 #[.slice x.pa x.pn x.pc] wx fun e w' => ∃ v u, e = .returned v ∧ LI true w' (fun k => wx.heap.size ≤ k ∧ k < w'.heap.size) v x.pn u x.pL x.pH ∧ Below wx.heap.size wx w') := fun wx hb => copyListsIns_own x.pa x.pn x.pc x.pA x.pL x.pC x.pH wx HL.out.p.1 HL.out.p.2 (HG.out.below hb).p (fun i hi => by
  obtain ⟨b, e, hlt, hI⟩ := (HG.out.below hb).pi i hi
  exact ⟨b, 0, e, by rw [e]; exact srcI hlt hI⟩)
 have HR : Hid (∀ wx ha, Below w.heap.size w wx → RowS wx ha c.length (fun i => .slice (x.hA i) (cN c i) (cN c i)) → ∀ p, p < x.pn → Calls Tryz.prog 69 #[.slice (x.pA p) (x.pL p) (x.pC p), .slice (x.hA p) (cN c p) (cN c p)] wx (DoneR wx ((x.y.atY (cN c)).sS p) (repO (x.pH p) (x.pL p) (x.hH p) (cN c p)).isSome)) := fun wx ha hb hr p hp => by
  obtain ⟨b, e, hlt, hI⟩ := (HG.out.below hb).pi p hp
  rw [e]
  exact implReplay_l b (x.pL p) (x.pC p) (x.hA p) (cN c p) (cN c p) (x.pH p) (x.hH p) wx (by have := HL.out.p.2 p hp; unfold maxLen; omega) hlt hI ((HE.out wx ha hb hr).ev p (by show p < c.length; omega)) (Nat.le_trans (hC.leN (by show p < x.pn; exact hp)) (by have := hO.hl200 (p := p) hp; show x.y.hL p ≤ _; omega)) (HVx.out wx hb)
 have HK : Hid (∀ wx ha, Below w.heap.size w wx → RowS wx ha c.length (fun i => .slice (x.hA i) (cN c i) (cN c i)) → ∀ p, p < x.pn → Calls Tryz.prog 70 #[.slice (x.hA p) (cN c p) (cN c p)] wx fun e w' => ∃ a1 c1, e = .returned (.slice a1 (cN c p) c1) ∧ w'.ownsRow wx.heap.size 71 3 (.slice a1 (cN c p) c1) (cN c p) (fE (x.hH p) (cN c p)) ∧ Value.slice a1 (cN c p) c1 ≠ .slice none 0 0 ∧ Below wx.heap.size wx w') := fun wx ha hb hr p hp => copyOfEvent_any (x.hA p) (cN c p) (cN c p) (x.hH p) wx (Nat.le_trans (hC.leN (by show p < x.pn; exact hp)) (by have := hO.hl200 (p := p) hp; show x.y.hL p ≤ _; omega)) (srcE ((HE.out wx ha hb hr).ev p (by show p < c.length; omega)))
 rw [t]
 clear t hcu hwh hO hC hln h4 hhn eah
 have HYW : Hid (x.y.atW (cN c) = if wfB (x.y.ah (cN c)) = true then x.y.atY (cN c) else x.y.nil) := rfl
 generalize x.y.atW (cN c) = YW at *
 generalize wfB (x.y.ah (cN c)) = wf at *
 go_wp2_with fail
 refine (HH.out w1 B1.out.1).mono ?_
 rintro e w2 ⟨ea, ec, rfl, r2, q2⟩
 have B2 : Hid (Below w1.heap.size w1 w2 ∧ RowS w2 ea c.length (fun i => .slice (x.hA i) (cN c i) (cN c i))) := ⟨q2, r2⟩
 clear q2 r2 b0 b1 b2 b3 HH
 have hl := hcL_len ea c.length ec
 have ho := hcL_one ea c.length ec
 generalize hcs : hcL ea c.length ec = cl at *
 have hs : cl.toArray.size = 21 := by simpa using hl
 have HI : Hid ((Tryz.prog.info? 79).map (·.size) = some cl.toArray.size) := by show _ = _; rw [hs]; exact infoHistory
 have HOc : Hid (cl.toArray.all (·.oneCell') = true) := all_oneCell_toArray ho
 have HT : Hid ((w2.alloc (zQ3)).there w2.heap.size 0 cl.toArray.size) := there_new _ _ _ _ _ (by rw [hs]; rfl) rfl
 have BE : Hid (Below w2.heap.size w2 ((w2.alloc (zQ3)).setCells w2.heap.size 0 cl)) := (Touch.sets (P := fun b => b = w2.heap.size) rfl _ _ (Touch.of_below (below_alloc _ _))).below (Nat.le_refl _) fun b e => by omega
 have HRr : ((w2.alloc (zQ3)).setCells w2.heap.size 0 cl).rangeAt w2.heap.size 0 cl := World.rangeAt_setCells_same _ _ _ _ (by simpa using HT.out)
 have HCe : Hid (((w2.alloc (zQ3)).setCells w2.heap.size 0 cl).cell? ⟨w2.heap.size, 0, none⟩ = some (.slice ea c.length ec)) := his_cell HRr hcs
 clear hl ho hs HRr hcs
 go_upto_region 4 with (refine wpList_store_mid rfl 79 (.tmp 6) (.tmp 21) rfl w2.heap.size 0 cl.toArray rfl rfl HT.out HI.out HOc.out ?_)
 clear HT HI HOc
 generalize (w2.alloc (zQ3)).setCells w2.heap.size 0 cl = w3 at *
 have B3 : Hid (Below w1.heap.size w1 w3 ∧ RowS w3 ea c.length (fun i => .slice (x.hA i) (cN c i) (cN c i))) := ⟨B2.out.1.trans (BE.out.mono B2.out.1.size), B2.out.2.below BE.out⟩
 clear BE B2
 generalize w2.heap.size = X at *
 clear w2
 have W03 : Hid (Below w.heap.size w w3) := B1.out.1.trans (B3.out.1.mono B1.out.1.size)
 go_wp2_with fail
 refine (HW.out w3 X ea ec W03.out HCe.out B3.out.2).mono ?_
 rintro e w4 ⟨v4, u4, rfl, o4, q4⟩
 have F4 : Hid ((wf = true → LT true w4 (fun k => w3.heap.size ≤ k ∧ k < w4.heap.size) v4 (x.y.atY (cN c)).wn u4 (x.y.atY (cN c)).wL (x.y.atY (cN c)).wH) ∧ Below w3.heap.size w3 w4) := ⟨o4, q4⟩
 clear o4 q4 HW
 cases wf with
 | false =>
  have HV : Hid (YW = x.y.nil) := HYW.out
  have q4 : Below w1.heap.size w1 w4 := B3.out.1.trans (F4.out.2.mono B3.out.1.size)
  obtain ⟨r0, r1, r2, r3⟩ := B1.out.2.2.1.below q4
  have rf : ∀ j, w4.frozen? ⟨w.heap.size + 1, j, none⟩ = false := fun j => ((bcell q4).2 _ j l1).trans (B1.out.2.2.2 j)
  have Q4 : Hid (Below w.heap.size w w4) := B1.out.1.trans (q4.mono B1.out.1.size)
  clear q4 F4 HP HR HK HE
  go_wp2
  exact bodyPost_ret (v := .tuple #[sysV none 0 0 none 0 0 none 0 0 none 0 0, .bool false]) (by simp [results, Tryz.results21, go_sem, r0, r1, r2, r3]) rfl ⟨_, by rw [HAT.out.1], by rw [HAT.out.2, HV.out]; exact OwnSys.zero _ _ _, (((Q4.out.setCell hM _).setCell hM _).setCell hM _).setCell hM _⟩
 | true =>
  have HV : Hid (YW = x.y.atY (cN c)) := HYW.out
  have O4 : Hid (LT true w4 (fun k => w3.heap.size ≤ k ∧ k < w4.heap.size) v4 (x.y.atY (cN c)).wn u4 (x.y.atY (cN c)).wL (x.y.atY (cN c)).wH ∧ Below w3.heap.size w3 w4) := ⟨F4.out.1 rfl, F4.out.2⟩
  clear HYW F4
  obtain ⟨a4, c4, rfl⟩ := ownsRow_slice O4.out.1.row
  obtain ⟨b0, b1, b2, b3⟩ := B1.out.2.1.below (B3.out.1.trans (O4.out.2.mono B3.out.1.size))
  have lw : w.heap.size < w4.heap.size := World.block_lt_of_cell? _ _ b0
  go_wp2_with fail
  refine (HP.out w4 (W03.out.trans (O4.out.2.mono W03.out.size))).mono ?_
  rintro e w5 ⟨v5, u5, rfl, o5, q5⟩
  obtain ⟨a5, c5, rfl⟩ := ownsRow_slice o5.row
  obtain ⟨cl5, st5⟩ := AtP.start (z := true) (B := w3.heap.size) (y := x.y.atY (cN c)) O4.out.1 o5 q5 (Nat.le_refl _) (Nat.le_refl _) O4.out.2.size
  have F5 : Hid (AtP true w3.heap.size w5.heap.size cl5 { x.y.atY (cN c) with sn := 0, hn := 0 } (w5.alloc (oQ4 a5 x.pn c5 none 0 0 a4 (x.y.atY (cN c)).wn c4 none 0 0)) (.slice a5 x.pn c5) (.slice none 0 0) (.slice a4 (x.y.atY (cN c)).wn c4) (.slice none 0 0) u5 (fun _ => .slice none 0 0) u4 (fun _ => .slice none 0 0) ∧ Below w3.heap.size w3 (w5.alloc (oQ4 a5 x.pn c5 none 0 0 a4 (x.y.atY (cN c)).wn c4 none 0 0))) := ⟨st5, (O4.out.2.trans (q5.mono O4.out.2.size)).trans ((below_allocL _ _).mono (Nat.le_trans O4.out.2.size q5.size))⟩
  clear o5 q5 st5 HP b0 b1 b2 b3 lw
  go_upto_region 8 with fail
  clear O4
  generalize w5.alloc (oQ4 a5 x.pn c5 none 0 0 a4 (x.y.atY (cN c)).wn c4 none 0 0) = W5 at *
  generalize hNN : w5.heap.size = N at *
  clear hNN w5
  have HX3 : Hid (∀ wx, Below w3.heap.size w3 wx → wx.cell? ⟨X, 0, none⟩ = some (.slice ea c.length ec) ∧ RowS wx ea c.length (fun i => .slice (x.hA i) (cN c i) (cN c i)) ∧ Below w.heap.size w wx ∧ BoxC wx w.heap.size (.slice x.pa x.pn x.pc) (.slice x.sa x.sn x.sc) (.slice x.wa x.wn x.wc) (.slice x.ha x.hn x.hc) ∧ BoxC wx (w.heap.size + 1) (.slice none 0 0) (.slice none 0 0) (.slice none 0 0) (.slice none 0 0) ∧ (∀ j, wx.frozen? ⟨w.heap.size + 1, j, none⟩ = false) ∧ w.heap.size + 1 < w3.heap.size ∧ w3.heap.size ≤ wx.heap.size) := fun wx hb => ⟨(hb.cell (p := ⟨X, 0, none⟩) (World.block_lt_of_cell? _ _ HCe.out)).trans HCe.out, B3.out.2.below hb, W03.out.trans (hb.mono W03.out.size), (B1.out.2.1.below B3.out.1).below hb, (B1.out.2.2.1.below B3.out.1).below hb, fun j => ((bcell hb).2 _ j (Nat.lt_of_lt_of_le l1 B3.out.1.size)).trans (((bcell B3.out.1).2 _ j l1).trans (B1.out.2.2.2 j)), Nat.lt_of_lt_of_le l1 B3.out.1.size, hb.size⟩
  clear B1 B3 HCe W03 l1
  have hn' : (c.length : Int) ≤ 4 := by have := HN.out; omega
  have hx0 := (HX3.out _ F5.out.2).1
  go_wp2_with fail
  clear hx0
  go_loopw [37] (fun i wr => ∃ k : Nat, k ≤ c.length ∧ i = .int .i64 k ∧ Hid ((∃ cl vs vh us uh, AtP true w3.heap.size N cl { x.y.atY (cN c) with sn := k, hn := k } wr (.slice a5 x.pn c5) vs (.slice a4 (x.y.atY (cN c)).wn c4) vh u5 us u4 uh) ∧ Below w3.heap.size w3 wr)) (fun i _ => c.length - (intOf i).toNat)
  case atStart => exact ⟨0, Nat.zero_le _, rfl, ⟨_, _, _, _, _, F5.out.1⟩, F5.out.2⟩
  case round =>
   clear F5
   obtain ⟨k, hk, rfl, HZ⟩ := hrel
   by_cases hlt : k < c.length
   ·have hlt' : (k : Int) < (c.length : Int) := by omega
    have hkp : k < x.pn := by have := HN.out; omega
    have hkp' : (k : Int) < (x.pn : Int) := by omega
    obtain ⟨-, hrw, hbw, ⟨b0, b1, b2, b3⟩, -, -, -, hle3⟩ := HX3.out wr HZ.out.2
    have RW : Hid (RowS wr ea c.length (fun i => .slice (x.hA i) (cN c i) (cN c i)) ∧ Below w.heap.size w wr) := ⟨hrw, hbw⟩
    obtain ⟨be, oe, rfl, ce⟩ := hrw.at hlt
    obtain ⟨bp, op, epp, cp⟩ := (HG.out.below hbw).p.at hkp
    rw [epp] at b0
    clear epp hbw
    obtain ⟨⟨cl, vs, vh, us, uh, hA⟩, hbz⟩ := HZ.out
    have AP : Hid (AtP true w3.heap.size N cl { x.y.atY (cN c) with sn := k, hn := k } wr (.slice a5 x.pn c5) vs (.slice a4 (x.y.atY (cN c)).wn c4) vh u5 us u4 uh) := hA
    have BZ : Hid (Below w3.heap.size w3 wr) := hbz
    clear hA hbz HZ hle3
    go_wp2_with fail
    refine (HR.out wr _ RW.out.2 RW.out.1 k hkp).mono ?_
    rintro e w6 ⟨v6, rfl, o6, q6⟩
    obtain ⟨ra1, rc1, oa1, oc1, rfl, -, -⟩ := o6.read
    clear b0 b1 b2 b3 ce cp
    have S6 : Hid (StOwn w6 wr.heap.size (stV ((x.y.atY (cN c)).sS k).p ra1 ((x.y.atY (cN c)).sS k).rs.length rc1 oa1 ((x.y.atY (cN c)).sS k).os.length oc1 ((x.y.atY (cN c)).sS k).c) ((x.y.atY (cN c)).sS k).p ((x.y.atY (cN c)).sS k).rs ((x.y.atY (cN c)).sS k).os ((x.y.atY (cN c)).sS k).c ∧ Below wr.heap.size wr w6) := ⟨o6, q6⟩
    clear o6 q6
    generalize hTT : (x.y.atY (cN c)).sS k = T at *
    have HTT : Hid ((x.y.atY (cN c)).sS k = T) := hTT
    clear hTT
    generalize (repO (x.pH k) (x.pL k) (x.hH k) (cN c k)).isSome = rb at *
    have N7 : Hid (BoxC (w6.alloc (oQ1 T.p ra1 T.rs.length rc1 oa1 T.os.length oc1 T.c)) w6.heap.size (.int .i64 T.p) (.slice ra1 T.rs.length rc1) (.slice oa1 T.os.length oc1) (.int .i64 T.c) ∧ Below wr.heap.size wr (w6.alloc (oQ1 T.p ra1 T.rs.length rc1 oa1 T.os.length oc1 T.c)) ∧ StOwn (w6.alloc (oQ1 T.p ra1 T.rs.length rc1 oa1 T.os.length oc1 T.c)) wr.heap.size (stV T.p ra1 T.rs.length rc1 oa1 T.os.length oc1 T.c) T.p T.rs T.os T.c) := ⟨BoxC.new w6 _ _ _ _ _, S6.out.2.trans ((below_allocL _ _).mono S6.out.2.size), S6.out.1.below (below_allocL _ _)⟩
    go_upto_region 12 with fail
    clear S6
    generalize w6.alloc (oQ1 T.p ra1 T.rs.length rc1 oa1 T.os.length oc1 T.c) = w7 at *
    generalize hN7 : w6.heap.size = S7 at *
    clear hN7 w6
    obtain ⟨sa, sc, rfl⟩ := ownsRow_slice AP.out.o.s.row
    obtain ⟨ha, hc, rfl⟩ := ownsRow_slice AP.out.o.h.row
    obtain ⟨x0, x1, x2, x3⟩ := (AP.out.below N7.out.2.1).bx
    obtain ⟨s0, s1, s2, s3⟩ := N7.out.1
    have hk2 : Hid (k ≤ 2000000) := by show k ≤ 2000000; omega
    have lN7 : N < w7.heap.size := World.block_lt_of_cell? _ _ x0
    have lS7 : S7 < w7.heap.size := World.block_lt_of_cell? _ _ s0
    go_upto_region 13 with (at_builtin; refine step_append_val kndS w7 rfl rfl _ _ rfl 0 (.slice sa k sc) k _ rfl (AP.out.o.s.below N7.out.2.1).row #[.int .i64 T.p, .slice ra1 T.rs.length rc1, .slice oa1 T.os.length oc1, .int .i64 T.c] rfl rfl (by intro u hu; simp at hu; rcases hu with rfl | rfl | rfl | rfl <;> rfl) hk2.out (Nat.zero_le _) ?_; intro v8 w8 o8 g8 q8 n8; obtain ⟨a8, c8, rfl⟩ := ownsRow_slice o8; obtain ⟨⟨z0, z1, z2, z3⟩, zf⟩ := AP.out.box N7.out.2.1 g8 (fun k hk => (AP.out.gS k hk).2); have F8 : Hid (AtP true w3.heap.size N (rcol cl wr.heap.size 2) { x.y.atY (cN c) with sn := k + 1, hn := k } (w8.setCell ⟨N, 1, none⟩ (.slice a8 (k + 1) c8)) (.slice a5 x.pn c5) (.slice a8 (k + 1) c8) (.slice a4 (x.y.atY (cN c)).wn c4) (.slice ha k hc) u5 (fun j => if j = k then stV T.p ra1 T.rs.length rc1 oa1 T.os.length oc1 T.c else us j) u4 uh ∧ Below w3.heap.size w3 (w8.setCell ⟨N, 1, none⟩ (.slice a8 (k + 1) c8))) := ⟨AP.out.state N7.out.2.1 (by rw [HTT.out]; exact N7.out.2.2) o8 g8 q8, (Below.grown (BZ.out.trans (N7.out.2.1.mono BZ.out.size)) g8 (Nat.le_trans BZ.out.size N7.out.2.1.size) (fun j hj => (AP.out.gS j hj).1)).setCell AP.out.bN _⟩; clear o8 g8 q8 n8)
    clear x0 x1 x2 x3 s0 s1 s2 s3 z0 z1 z2 z3 zf lN7 lS7 N7 AP
    generalize w8.setCell ⟨N, 1, none⟩ (.slice a8 (k + 1) c8) = w9 at *
    clear w8
    obtain ⟨x0, x1, x2, x3⟩ := F8.out.1.bx
    have lN9 : N < w9.heap.size := F8.out.1.lt
    have q0 : Below w9.heap.size w9 w9.drew := (Below.refl w9.heap.size w9).drew
    obtain ⟨-, hrw, hbw, -⟩ := HX3.out w9.drew (F8.out.2.trans (q0.mono F8.out.2.size))
    refine wp_region_G (fun w' => w'.cell? ⟨N, 3, none⟩ = some (.slice ha k hc)) (fun i => i == 7) (by kernel_rfl) ?_
    have hHeld : (fun w' : World => w'.cell? ⟨N, 3, none⟩ = some (.slice ha k hc)) w9.drew := (q0.cell (p := ⟨N, 3, none⟩) lN9).trans x3
    refine wpGT_of [0, 1, 2] ?_
    iterate 3 (refine wpGT_take rfl hHeld ?_; apply Exists.intro; refine ⟨fun wq hSw => ?_, ?_⟩; (· ((try dsimp only at hSw); go_simp; try with_reducible rfl)); (try simp only [Act.put, List.setIfInBounds_toArray, List.set_cons_zero, List.set_cons_succ]))
    refine wpGT_nil ?_
    refine wpG_one 3 rfl (by kernel_rfl) (fun K hK => ?_)
    refine stepR_call rfl 70 _ _ rfl #[.slice (x.hA k) (cN c k) (cN c k)] (by simp [Act.eval]) (run_enter Tryz.func70 (by kernel_rfl) rfl) (HK.out w9.drew _ hbw hrw k hkp) ?_
    rintro e w10 ⟨a10, c10, rfl, o10, n10, d10⟩
    refine ⟨_, rfl, ?_⟩
    have Q10 : Hid (Below w9.heap.size w9 w10 ∧ w10.ownsRow w9.heap.size 71 3 (.slice a10 (cN c k) c10) (cN c k) (fE (x.hH k) (cN c k)) ∧ Value.slice a10 (cN c k) c10 ≠ .slice none 0 0) := ⟨q0.trans (d10.mono q0.size), o10, n10⟩
    refine hK.out _ _ (fun _ => (Q10.out.1.cell (p := ⟨N, 3, none⟩) lN9).trans x3) ?_
    clear hHeld hK K o10 n10 d10 hrw hbw q0
    (try simp only [Act.put, List.setIfInBounds_toArray, List.set_cons_zero, List.set_cons_succ])
    refine wpG_one 4 rfl (by kernel_rfl) (fun K hK => ?_)
    go_simp
    refine hK.out _ _ (fun _ => ((Q10.out.1.trans ((below_allocL w10 _).mono Q10.out.1.size)).cell (p := ⟨N, 3, none⟩) lN9).trans x3) ?_
    clear hK K
    (try simp only [Act.put, List.setIfInBounds_toArray, List.set_cons_zero, List.set_cons_succ])
    refine wpG_one 5 rfl (by kernel_rfl) (fun K hK => ?_)
    refine stepR_append_val kndEE w10 rfl rfl _ _ rfl 0 (.slice ha k hc) k _ rfl (F8.out.1.o.h.below Q10.out.1).row #[.slice a10 (cN c k) c10] rfl rfl (by intro u hu; simp at hu; subst hu; rfl) hk2.out (Nat.zero_le _) ?_
    intro v11 w11 o11 g11 q11 n11
    obtain ⟨a11, c11, rfl⟩ := ownsRow_slice o11
    obtain ⟨⟨z0, z1, z2, z3⟩, zf⟩ := F8.out.1.box Q10.out.1 g11 (fun k hk => (F8.out.1.gH k hk).2)
    have F9 : Hid (AtP true w3.heap.size N (rcol (rcol cl wr.heap.size 2) w9.heap.size 4) { x.y.atY (cN c) with sn := k + 1, hn := k + 1 } (w11.setCell ⟨N, 3, none⟩ (.slice a11 (k + 1) c11)) (.slice a5 x.pn c5) (.slice a8 (k + 1) c8) (.slice a4 (x.y.atY (cN c)).wn c4) (.slice a11 (k + 1) c11) u5 (fun j => if j = k then stV T.p ra1 T.rs.length rc1 oa1 T.os.length oc1 T.c else us j) u4 (fun j => if j = k then .slice a10 (cN c k) c10 else uh j) ∧ Below w3.heap.size w3 (w11.setCell ⟨N, 3, none⟩ (.slice a11 (k + 1) c11))) := ⟨F8.out.1.hist Q10.out.1 Q10.out.2.1 Q10.out.2.2 o11 g11 q11, (Below.grown (F8.out.2.trans (Q10.out.1.mono F8.out.2.size)) g11 (Nat.le_trans F8.out.2.size Q10.out.1.size) (fun j hj => (F8.out.1.gH j hj).1)).setCell F8.out.1.bN _⟩
    refine hK.out _ _ (fun _ => z3) ?_
    clear o11 g11 q11 n11 hK K
    (try simp only [Act.put, List.setIfInBounds_toArray, List.set_cons_zero, List.set_cons_succ])
    have hHeld : (fun w' : World => w'.cell? ⟨N, 3, none⟩ = some (.slice ha k hc)) w11 := z3
    refine wpG_take 6 rfl hHeld ?_
    apply Exists.intro
    refine ⟨fun wq hSw => ?_, ?_⟩
    ·(try dsimp only at hSw)
     go_simp
     try with_reducible rfl
    (try simp only [Act.put, List.setIfInBounds_toArray, List.set_cons_zero, List.set_cons_succ])
    refine wpG_one 7 rfl (by kernel_rfl) (fun K hK => ?_)
    have hfN1 := zf 3
    go_simp
    refine hK.out _ _ (fun h => ?_) ?_
    ·exact absurd h (by decide)
    clear hK K z0 z1 z2 z3 zf hfN1 x0 x1 x2 x3 Q10 F8 lN9
    (try simp only [Act.put])
    refine wpG_done (by kernel_rfl) ?_ _
    go_wp2
    go_roundw
    case rel => exact ⟨k + 1, by omega, by go_num, ⟨_, _, _, _, _, F9.out.1⟩, F9.out.2⟩
    case measure => simp [intOf]; omega
   ·have hkn : k = x.pn := by have := HN.out; omega
    subst hkn
    have hlt' : ¬ (x.pn : Int) < (c.length : Int) := by omega
    obtain ⟨⟨cl, vs, vh, us, uh, hA⟩, hbz⟩ := HZ.out
    obtain ⟨sa, sc, rfl⟩ := ownsRow_slice hA.o.s.row
    obtain ⟨ha, hc, rfl⟩ := ownsRow_slice hA.o.h.row
    obtain ⟨x0, x1, x2, x3⟩ := hA.bx
    obtain ⟨-, -, hbw, -, ⟨r0, r1, r2, r3⟩, rf, l1, hle3⟩ := HX3.out wr hbz
    have OS : Hid (OwnSys true wr w3.heap.size (x.y.atY (cN c)) (.agg #[.slice a5 x.pn c5, .slice sa x.pn sc, .slice a4 (x.y.atY (cN c)).wn c4, .slice ha x.pn hc])) := ⟨_, _, _, _, _, _, _, _, _, rfl, hA.o⟩
    have BW : Hid (Below w.heap.size w wr ∧ w.heap.size ≤ w3.heap.size) := ⟨hbw, by omega⟩
    have lN : N < wr.heap.size := hA.lt
    have hNr : w3.heap.size ≤ N := hA.bN
    have hl1 : w.heap.size + 1 < wr.heap.size := by omega
    clear hA HZ hbw hbz HX3
    go_wp2
    exact bodyPost_ret (v := .tuple #[.agg #[.slice a5 x.pn c5, .slice sa x.pn sc, .slice a4 (x.y.atY (cN c)).wn c4, .slice ha x.pn hc], .bool true]) (by simp [results, Tryz.results21, go_sem, r0, r1, r2, r3]) rfl ⟨_, by rw [HAT.out.1], by
     rw [HAT.out.2, HV.out]
     exact ((((OS.out.setBelow l1 0 _).setBelow l1 1 _).setBelow l1 2 _).setBelow l1 3 _).base BW.out.2, (((BW.out.1.setCell hM _).setCell hM _).setCell hM _).setCell hM _⟩
open Go.Sort
theorem specCutOk_any (x : SysIn) (ca : Option Addr) (cc : Nat) (c : List Int) (w : World) (hG : SysG w x) (hL : x.Len) (hcap : ∀ i, i < x.hn → x.hL i ≤ x.hC i) (hc : Sl w ca c) (hcl : c.length ≤ 1048576) :
  Calls Tryz.prog 138 #[x.v, .slice ca c.length cc] w fun e w' => e = .returned (.bool (cutB x.y c)) ∧ Below w.heap.size w w' := by
 have HS : Hid (∀ wx, Below w.heap.size w wx → Calls Tryz.prog 44 #[x.v] wx fun e w' => e = .returned (.bool x.y.okB) ∧ Below wx.heap.size wx w') := fun wx hb => specSysOk_any x wx (hG.below hb) hL hcap
 have HU : Hid (x.y.okB = true → ∀ wx, Below w.heap.size w wx → Calls Tryz.prog 203 #[x.v, .slice ca c.length cc] wx fun e w' => e = .returned (.bool (qB (x.y.Cut c))) ∧ Below wx.heap.size wx w') := fun t wx hb => l8Cut_any x ca cc c wx (hG.below hb) hL (Sy.ok_of t).cn.2.2.1 (hc.below hb) hcl
 have BW : Hid (Below w.heap.size w (w.alloc (oQ4 x.pa x.pn x.pc x.sa x.sn x.sc x.wa x.wn x.wc x.ha x.hn x.hc))) := below_alloc _ _
 have NB : Hid (BoxC (w.alloc (oQ4 x.pa x.pn x.pc x.sa x.sn x.sc x.wa x.wn x.wc x.ha x.hn x.hc)) w.heap.size (.slice x.pa x.pn x.pc) (.slice x.sa x.sn x.sc) (.slice x.wa x.wn x.wc) (.slice x.ha x.hn x.hc)) := BoxC.new w _ _ _ _ _
 have HX : Hid (cutB x.y c = (x.y.okB && qB (x.y.Cut c))) := rfl
 generalize cutB x.y c = R at *
 clear hG hL hcap hc
 go_enter Tryz.func138, Tryz.ntmps138
 go_wp2_with fail
 generalize w.alloc (oQ4 x.pa x.pn x.pc x.sa x.sn x.sc x.wa x.wn x.wc x.ha x.hn x.hc) = W2 at *
 refine (HS.out W2 BW.out).mono ?_
 rintro e w1 ⟨rfl, q1⟩
 have B1 : Hid (Below w.heap.size w w1 ∧ BoxC w1 w.heap.size (.slice x.pa x.pn x.pc) (.slice x.sa x.sn x.sc) (.slice x.wa x.wn x.wc) (.slice x.ha x.hn x.hc)) := ⟨BW.out.trans (q1.mono BW.out.size), NB.out.below q1⟩
 clear q1 BW NB HS
 rcases Bool.eq_false_or_eq_true x.y.okB with t | t
 case inr =>
  have HV : Hid (R = false) := by
   show R = false
   rw [HX.out, t]
   rfl
  rw [t]
  clear t HU HX
  go_wp2
  go_ret
  rw [HV.out]
  exact ⟨rfl, B1.out.1⟩
 have HV : Hid (R = qB (x.y.Cut c)) := by
  show R = _
  rw [HX.out, t]
  rfl
 have HU' : Hid (∀ wx, Below w.heap.size w wx → Calls Tryz.prog 203 #[x.v, .slice ca c.length cc] wx fun e w' => e = .returned (.bool (qB (x.y.Cut c))) ∧ Below wx.heap.size wx w') := HU.out t
 rw [t]
 clear t HX HU
 obtain ⟨b0, b1, b2, b3⟩ := B1.out.2
 go_wp2_with fail
 refine (HU'.out w1 B1.out.1).mono ?_
 rintro e w2 ⟨rfl, q2⟩
 have B2 : Hid (Below w.heap.size w w2) := B1.out.1.trans (q2.mono B1.out.1.size)
 rw [← HV.out]
 clear q2 b0 b1 b2 b3 B1 HU' HV
 go_wp2
 go_ret
 exact ⟨rfl, B2.out⟩
theorem specWhole_any (x : SysIn) (ca : Option Addr) (cc : Nat) (c : List Int) (w : World) (hG : SysG w x) (hL : x.Len) (hcap : ∀ i, i < x.hn → x.hL i ≤ x.hC i) (hc : Sl w ca c) (hcl : c.length ≤ 1048576) :
  Calls Tryz.prog 59 #[x.v, .slice ca c.length cc] w fun e w' => e = .returned (.bool (whB x.y c)) ∧ Below w.heap.size w w' := by
 have HS : Hid (∀ wx, Below w.heap.size w wx → Calls Tryz.prog 138 #[x.v, .slice ca c.length cc] wx fun e w' => e = .returned (.bool (cutB x.y c)) ∧ Below wx.heap.size wx w') := fun wx hb => specCutOk_any x ca cc c wx (hG.below hb) hL hcap (hc.below hb) hcl
 have HU : Hid (cutB x.y c = true → ∀ wx, Below w.heap.size w wx → Calls Tryz.prog 139 #[x.v, .slice ca c.length cc] wx fun e w' => e = .returned (.bool (qB (x.y.Wh (cN c)))) ∧ Below wx.heap.size wx w') := fun t wx hb => l8Whole_any x ca cc c wx (hG.below hb) hcap (cutB_parts t).1 (cutB_parts t).2 (hc.below hb)
 have BW : Hid (Below w.heap.size w (w.alloc (oQ4 x.pa x.pn x.pc x.sa x.sn x.sc x.wa x.wn x.wc x.ha x.hn x.hc))) := below_alloc _ _
 have NB : Hid (BoxC (w.alloc (oQ4 x.pa x.pn x.pc x.sa x.sn x.sc x.wa x.wn x.wc x.ha x.hn x.hc)) w.heap.size (.slice x.pa x.pn x.pc) (.slice x.sa x.sn x.sc) (.slice x.wa x.wn x.wc) (.slice x.ha x.hn x.hc)) := BoxC.new w _ _ _ _ _
 have HX : Hid (whB x.y c = (cutB x.y c && qB (x.y.Wh (cN c)))) := rfl
 generalize whB x.y c = R at *
 generalize cutB x.y c = T at *
 clear hG hL hcap hc
 go_enter Tryz.func59, Tryz.ntmps59
 go_wp2_with fail
 generalize w.alloc (oQ4 x.pa x.pn x.pc x.sa x.sn x.sc x.wa x.wn x.wc x.ha x.hn x.hc) = W2 at *
 refine (HS.out W2 BW.out).mono ?_
 rintro e w1 ⟨rfl, q1⟩
 have B1 : Hid (Below w.heap.size w w1 ∧ BoxC w1 w.heap.size (.slice x.pa x.pn x.pc) (.slice x.sa x.sn x.sc) (.slice x.wa x.wn x.wc) (.slice x.ha x.hn x.hc)) := ⟨BW.out.trans (q1.mono BW.out.size), NB.out.below q1⟩
 clear q1 BW NB HS
 cases T with
 | false =>
  have HV : Hid (R = false) := by
   show R = false
   rw [HX.out]
   rfl
  clear HU HX
  go_wp2
  go_ret
  rw [HV.out]
  exact ⟨rfl, B1.out.1⟩
 | true =>
  have HV : Hid (R = qB (x.y.Wh (cN c))) := by
   show R = _
   rw [HX.out]
   rfl
  have HU' := HU.out rfl
  have HU2 : Hid (∀ wx, Below w.heap.size w wx → Calls Tryz.prog 139 #[x.v, .slice ca c.length cc] wx fun e w' => e = .returned (.bool (qB (x.y.Wh (cN c)))) ∧ Below wx.heap.size wx w') := HU'
  clear HX HU HU'
  obtain ⟨b0, b1, b2, b3⟩ := B1.out.2
  go_wp2_with fail
  refine (HU2.out w1 B1.out.1).mono ?_
  rintro e w2 ⟨rfl, q2⟩
  have B2 : Hid (Below w.heap.size w w2) := B1.out.1.trans (q2.mono B1.out.1.size)
  rw [← HV.out]
  clear q2 b0 b1 b2 b3 B1 HU2 HV
  go_wp2
  go_ret
  exact ⟨rfl, B2.out⟩
theorem specAt_any (x : SysIn) (ca : Option Addr) (cc : Nat) (c : List Int) (w : World) (hG : SysG w x) (hL : x.Len) (hcap : ∀ i, i < x.hn → x.hL i ≤ x.hC i) (hc : Sl w ca c) (hcl : c.length ≤ 1048576) :
  Calls Tryz.prog 18 #[x.v, .slice ca c.length cc] w fun e w' => ∃ v, e = .returned (.tuple #[v, .bool (atB x.y c)]) ∧ OwnSys false w' w.heap.size (atS x.y c) v ∧ Below w.heap.size w w' := by
 have HS : Hid (∀ wx, Below w.heap.size w wx → Calls Tryz.prog 59 #[x.v, .slice ca c.length cc] wx fun e w' => e = .returned (.bool (whB x.y c)) ∧ Below wx.heap.size wx w') := fun wx hb => specWhole_any x ca cc c wx (hG.below hb) hL hcap (hc.below hb) hcl
 have HAt : Hid (whB x.y c = true → ∀ wx, Below w.heap.size w wx → Calls Tryz.prog 60 #[x.v, .slice ca c.length cc] wx fun e w' => ∃ v, e = .returned (.tuple #[v, .bool (atB x.y c)]) ∧ OwnSys false w' wx.heap.size (atS x.y c) v ∧ Below wx.heap.size wx w') := fun t wx hb => by
  obtain ⟨hO, hC⟩ := cutB_parts (whB_parts t).1
  have h := l8At_any x ca cc c wx (hG.below hb) hL hcap hO hC (hc.below hb)
  have e1 : atB x.y c = wfB (x.y.ah (cN c)) := by unfold atB; rw [t]; rfl
  have e2 : atS x.y c = x.y.atW (cN c) := if_pos t
  rw [e1, e2]
  exact h
 have HNo : Hid (whB x.y c = false → atB x.y c = false ∧ atS x.y c = x.y.nil) := fun t => ⟨by unfold atB; rw [t]; rfl, if_neg (by rw [t]; simp)⟩
 have BW : Hid (Below w.heap.size w ((w.alloc (oQ4 x.pa x.pn x.pc x.sa x.sn x.sc x.wa x.wn x.wc x.ha x.hn x.hc)).alloc (zQ2))) := (below_allocL _ _).trans ((below_allocL _ _).mono (by simp))
 have NB : Hid (BoxC ((w.alloc (oQ4 x.pa x.pn x.pc x.sa x.sn x.sc x.wa x.wn x.wc x.ha x.hn x.hc)).alloc (zQ2)) w.heap.size (.slice x.pa x.pn x.pc) (.slice x.sa x.sn x.sc) (.slice x.wa x.wn x.wc) (.slice x.ha x.hn x.hc)) := (BoxC.new w _ _ _ _ _).below (below_allocL _ _)
 have RB : Hid (BoxC ((w.alloc (oQ4 x.pa x.pn x.pc x.sa x.sn x.sc x.wa x.wn x.wc x.ha x.hn x.hc)).alloc (zQ2)) (w.heap.size + 1) (.slice none 0 0) (.slice none 0 0) (.slice none 0 0) (.slice none 0 0) ∧ ∀ j, ((w.alloc (oQ4 x.pa x.pn x.pc x.sa x.sn x.sc x.wa x.wn x.wc x.ha x.hn x.hc)).alloc (zQ2)).frozen? ⟨w.heap.size + 1, j, none⟩ = false) := ⟨⟨new_cell _ _ _ 0 (by simp), new_cell _ _ _ 1 (by simp), new_cell _ _ _ 2 (by simp), new_cell _ _ _ 3 (by simp)⟩, fun j => new_frozen _ _ _ _ (by simp)⟩
 have hM : w.heap.size ≤ w.heap.size + 1 := Nat.le_succ _
 generalize atB x.y c = aB at *
 generalize atS x.y c = aS at *
 generalize whB x.y c = T at *
 clear hG hL hcap hc
 go_enter Tryz.func18, Tryz.ntmps18
 go_wp2_with fail
 generalize (w.alloc (oQ4 x.pa x.pn x.pc x.sa x.sn x.sc x.wa x.wn x.wc x.ha x.hn x.hc)).alloc (zQ2) = W2 at *
 refine (HS.out W2 BW.out).mono ?_
 rintro e w1 ⟨rfl, q1⟩
 have B1 : Hid (Below w.heap.size w w1 ∧ BoxC w1 w.heap.size (.slice x.pa x.pn x.pc) (.slice x.sa x.sn x.sc) (.slice x.wa x.wn x.wc) (.slice x.ha x.hn x.hc) ∧ BoxC w1 (w.heap.size + 1) (.slice none 0 0) (.slice none 0 0) (.slice none 0 0) (.slice none 0 0) ∧ ∀ j, w1.frozen? ⟨w.heap.size + 1, j, none⟩ = false) := ⟨BW.out.trans (q1.mono BW.out.size), NB.out.below q1, RB.out.1.below q1, fun j => ((bcell q1).2 _ j (World.block_lt_of_cell? _ _ RB.out.1.1)).trans (RB.out.2 j)⟩
 clear q1 BW NB RB HS
 have l1 : w.heap.size + 1 < w1.heap.size := World.block_lt_of_cell? _ _ B1.out.2.2.1.1
 obtain ⟨b0, b1, b2, b3⟩ := B1.out.2.1
 cases T with
 | false =>
  have HV := HNo.out rfl
  obtain ⟨⟨r0, r1, r2, r3⟩, rf⟩ := B1.out.2.2
  clear HNo HAt
  go_wp2
  exact bodyPost_ret (v := .tuple #[sysV none 0 0 none 0 0 none 0 0 none 0 0, .bool false]) (by simp [results, Tryz.results18, go_sem, r0, r1, r2, r3]) rfl ⟨_, by rw [HV.1], by rw [HV.2]; exact OwnSys.zero _ _ _, (((B1.out.1.setCell hM _).setCell hM _).setCell hM _).setCell hM _⟩
 | true =>
  have HA' : Hid (∀ wx, Below w.heap.size w wx → Calls Tryz.prog 60 #[x.v, .slice ca c.length cc] wx fun e w' => ∃ v, e = .returned (.tuple #[v, .bool aB]) ∧ OwnSys false w' wx.heap.size aS v ∧ Below wx.heap.size wx w') := HAt.out rfl
  clear HNo HAt
  go_wp2_with fail
  refine (HA'.out w1 B1.out.1).mono ?_
  rintro e w2 ⟨v2, rfl, o2, q2⟩
  obtain ⟨cl, vp, vs, vw, vh, up, us, uw, uh, rfl, o2⟩ := o2
  obtain ⟨pa, pc, rfl⟩ := ownsRow_slice o2.p.row
  obtain ⟨sa, sc, rfl⟩ := ownsRow_slice o2.s.row
  obtain ⟨wa, wc, rfl⟩ := ownsRow_slice o2.t.row
  obtain ⟨ha, hc, rfl⟩ := ownsRow_slice o2.h.row
  have B2 : Hid (Below w.heap.size w w2 ∧ OwnSys false w2 w1.heap.size aS (.agg #[.slice pa aS.pn pc, .slice sa aS.sn sc, .slice wa aS.wn wc, .slice ha aS.hn hc])) := ⟨B1.out.1.trans (q2.mono B1.out.1.size), _, _, _, _, _, _, _, _, _, rfl, o2⟩
  obtain ⟨r0, r1, r2, r3⟩ := B1.out.2.2.1.below q2
  have rf : ∀ j, w2.frozen? ⟨w.heap.size + 1, j, none⟩ = false := fun j => ((bcell q2).2 _ j l1).trans (B1.out.2.2.2 j)
  clear o2 q2 b0 b1 b2 b3 HA'
  go_wp2
  exact bodyPost_ret (v := .tuple #[.agg #[.slice pa aS.pn pc, .slice sa aS.sn sc, .slice wa aS.wn wc, .slice ha aS.hn hc], .bool aB]) (by simp [results, Tryz.results18, go_sem, r0, r1, r2, r3]) rfl ⟨_, rfl, ((((B2.out.2.setBelow l1 0 _).setBelow l1 1 _).setBelow l1 2 _).setBelow l1 3 _).base B1.out.1.size, (((B2.out.1.setCell hM _).setCell hM _).setCell hM _).setCell hM _⟩
end Go.Proofs.YtcplnkhdclcgfaaGreatDoor
