/- The walk of the program's comingIn. -/
import Derived.Test.YtcplnkhdclcgfaaGreatDoorSd0
import Derived.Test.YtcplnkhdclcgfaaGreatDoorSd34
import Derived.Test.YtcplnkhdclcgfaaGreatDoorSd40
import Derived.Deep.RegionHeld3
namespace Go.Proofs.YtcplnkhdclcgfaaGreatDoor
set_option maxRecDepth 100000
set_option maxHeartbeats 1000000
open Go.ChangeShapes Go.WideShapes Go.ChangeAt Go.RowKit Go.Deep Go.Sort
theorem EvK.putN {w : World} {M N : Nat} {k q v : Int} (h : EvK w M k q v) (hN : N ≠ M) (a b c : Value) : EvK (((w.setCell ⟨N, 0, none⟩ a).setCell ⟨N, 1, none⟩ b).setCell ⟨N, 2, none⟩ c) M k q v := by
 obtain ⟨h0, h1, h2, hf⟩ := h
 exact ⟨by go_cell, by go_cell, by go_cell, fun j => by simpa using hf j⟩
theorem BoxC.put3N {w : World} {M N : Nat} {p q r s : Value} (h : BoxC w M p q r s) (hN : N ≠ M) (a b c : Value) : BoxC (((w.setCell ⟨N, 0, none⟩ a).setCell ⟨N, 1, none⟩ b).setCell ⟨N, 2, none⟩ c) M p q r s := by
 obtain ⟨h0, h1, h2, h3⟩ := h
 exact ⟨by go_cell, by go_cell, by go_cell, by go_cell⟩
def SysIn.nk (x : SysIn) (p : Nat) : Int := nxK (x.pH p) (x.pL p) (x.sQ p).p (x.sQ p).rs (x.sQ p).os (x.sQ p).c
def SysIn.nq (x : SysIn) (p : Nat) : Int := nxP (x.pH p) (x.pL p) (x.sQ p).p (x.sQ p).rs (x.sQ p).os (x.sQ p).c
def SysIn.nv (x : SysIn) (p : Nat) : Int := nxW (x.pH p) (x.pL p) (x.sQ p).p (x.sQ p).rs (x.sQ p).os (x.sQ p).c
def cmC (x : SysIn) (p : Nat) (f : Int) : Int := if (x.sQ p).c ≠ 0 then 6 else if fuB x p (x.nk p) (x.nq p) = true then 4 else if x.nk p = 3 then tkC x p (if x.nq p = 9 then f else x.nq p) else 0
def cmV (x : SysIn) (p : Nat) (f : Int) : Value := if cmC x p f = 0 then (if x.nk p = 3 then tkV x p (if x.nq p = 9 then f else x.nq p) else evV (x.nk p) (x.nq p) (x.nv p)) else evV 0 0 0
theorem tkV_ev (x : SysIn) (p : Nat) (g : Int) : ∃ k q v : Int, tkV x p g = evV k q v /\ k ≠ 2 /\ (tkC x p g ≠ 0 -> evV k q v = evV 0 0 0) := by
 unfold tkV
 by_cases h : tkC x p g = 0
 ·rw [if_pos h]
  exact ⟨3, g, _, rfl, by decide, fun hn => absurd h hn⟩
 ·rw [if_neg h]
  exact ⟨0, 0, 0, rfl, by decide, fun _ => rfl⟩
theorem fuB_of {x : SysIn} {p : Nat} {k q k' q' : Int} (h : k ≠ 2) (h' : k' ≠ 2) : fuB x p k q = fuB x p k' q' := by
 have e : (k == 2) = false := by simpa using h
 have e' : (k' == 2) = false := by simpa using h'
 rw [fuB, fuB, e, e', Bool.false_and, Bool.false_and]
theorem comingIn_out (x : SysIn) (p f : Int) (w : World) (t1 : belB p x.pn = false) :
  Calls Tryz.prog 42 #[x.v, .int .i64 p, .int .i64 f] w fun e w' => e = .returned (.tuple #[evV 0 0 0, .int .i64 2]) /\ Below w.heap.size w w' := by
 go_enter Tryz.func42, Tryz.ntmps42
 go_wp2_with fail
 refine (isBelow_any _ _ _).mono ?_
 rintro e w1 ⟨rfl, rfl⟩
 rw [t1]
 go_wp2
 exact bodyPost_ret (v := .tuple #[evV 0 0 0, .int .i64 2]) (by simp [results, Tryz.results42, go_sem]) rfl ⟨rfl, by go_grown⟩
theorem comingIn_any (x : SysIn) (p : Nat) (f : Int) (w : World) (hG : SysG w x) (hL : x.Len) (hp : p < x.pn) (h4 : x.pn <= 4) (hs : x.sn = x.pn) (hh : x.hn = x.pn) (hw : x.wn = x.pn * x.pn) (hP : progOkB (x.pH p) (x.pL p) 4 = true) (hq : x.nk p = 2 -> 0 <= x.nq p /\ x.nq p < x.pn) :
  Calls Tryz.prog 42 #[x.v, .int .i64 p, .int .i64 f] w fun e w' => e = .returned (.tuple #[cmV x p f, .int .i64 (cmC x p f)]) /\ Below w.heap.size w w' := by
 have HG : Hid (SysG w x) := hG
 have t1 : belB (p : Int) x.pn = true := by
  simp only [belB, decide_eq_true_eq]
  omega
 have hp' : (p : Int) < (x.pn : Int) := by omega
 have hps : (p : Int) < (x.sn : Int) := by omega
 have HM : Hid (x.pL p <= maxLen /\ (x.sQ p).os.length <= 1048576) := ⟨by have := hL.p.2 p hp; unfold maxLen; omega, (hL.s.2 p (by omega)).2⟩
 have HT : Hid (∀ (g : Int) (wx : World), Below w.heap.size w wx -> Calls Tryz.prog 102 #[x.v, .int .i64 p, .int .i64 g] wx fun e w' => e = .returned (.tuple #[tkV x p g, .int .i64 (tkC x p g)]) /\ Below wx.heap.size wx w') := fun g wx hb => takeOf_any x p g wx (HG.out.below hb) hL hp h4 hw
 have HF : Hid (∀ (k q v : Int) (wx : World), (k = 2 -> 0 <= q /\ q < x.pn) -> Below w.heap.size w wx -> Calls Tryz.prog 104 #[x.v, .int .i64 p, evV k q v] wx fun e w' => e = .returned (.bool (fuB x p k q)) /\ Below wx.heap.size wx w') := fun k q v wx hk hb => isFullFor_any x p k q v wx (HG.out.below hb) hp h4 hh hw hk
 have HP : Hid (progOkB (x.pH p) (x.pL p) 4 = true) := hP
 have HQ : Hid (x.nk p = 2 -> 0 <= x.nq p /\ x.nq p < x.pn) := hq
 have HC : Hid (cmC x p f = (if (x.sQ p).c ≠ 0 then 6 else if fuB x p (x.nk p) (x.nq p) = true then 4 else if x.nk p = 3 then tkC x p (if x.nq p = 9 then f else x.nq p) else 0) /\ cmV x p f = if cmC x p f = 0 then (if x.nk p = 3 then tkV x p (if x.nq p = 9 then f else x.nq p) else evV (x.nk p) (x.nq p) (x.nv p)) else evV 0 0 0) := ⟨rfl, rfl⟩
 generalize cmV x p f = V at *
 generalize cmC x p f = C at *
 have BW : Hid (Below w.heap.size w ((w.alloc (oQ4 x.pa x.pn x.pc x.sa x.sn x.sc x.wa x.wn x.wc x.ha x.hn x.hc)).alloc (zQ6))) := (zT _ _).trans ((zT _ _).mono (by simp))
 have RX : Hid (EvK ((w.alloc (oQ4 x.pa x.pn x.pc x.sa x.sn x.sc x.wa x.wn x.wc x.ha x.hn x.hc)).alloc (zQ6)) (w.heap.size + 1) 0 0 0) := ⟨zW _ _ _ 0 (by simp), zW _ _ _ 1 (by simp), zW _ _ _ 2 (by simp), fun j => yB _ _ _ _ (by simp)⟩
 have NB : Hid (BoxC ((w.alloc (oQ4 x.pa x.pn x.pc x.sa x.sn x.sc x.wa x.wn x.wc x.ha x.hn x.hc)).alloc (zQ6)) w.heap.size (.slice x.pa x.pn x.pc) (.slice x.sa x.sn x.sc) (.slice x.wa x.wn x.wc) (.slice x.ha x.hn x.hc)) := (BoxC.new w _ _ _ _ _).below (zT _ _)
 have hsp : p < x.sn := by omega
 clear hG hL hw hh hs hP hq
 go_enter Tryz.func42, Tryz.ntmps42
 go_wp2_with fail
 refine (isBelow_any _ _ _).mono ?_
 rintro e w1 ⟨rfl, rfl⟩
 rw [t1]
 generalize (w.alloc (oQ4 x.pa x.pn x.pc x.sa x.sn x.sc x.wa x.wn x.wc x.ha x.hn x.hc)).alloc (zQ6) = W2 at *
 obtain ⟨bp, op, ep, cp⟩ := (HG.out.below BW.out).p.at hp
 obtain ⟨b', eb', hbl, hI⟩ := (HG.out.below BW.out).pi p hp
 obtain ⟨bs, os, es, s0, s1, s2, s3⟩ := (HG.out.below BW.out).s.at hsp
 obtain ⟨l1, l2⟩ := (HG.out.below BW.out).s.lst p hsp
 obtain ⟨b0, b1, b2, b3⟩ := NB.out
 rw [eb'] at cp
 rw [ep] at b0
 rw [es] at b1
 have HI : Hid (∀ wx, Below W2.heap.size W2 wx -> b' < wx.heap.size /\ InsAt wx b' 0 (x.pL p) (x.pH p)) := fun wx hb => ⟨zL hbl hb.size, hI.below hb hbl⟩
 have HS : Hid (Sl W2 (x.sQ p).ra (x.sQ p).rs /\ Sl W2 (x.sQ p).oa (x.sQ p).os) := ⟨l1, l2⟩
 obtain ⟨r0, r1, r2, rf⟩ := RX.out
 have z2 : w.heap.size + 1 < W2.heap.size := zJ W2 _ r0
 clear hI l1 l2 ep eb' es hbl t1
 by_cases h0 : (x.sQ p).c = 0
 case neg =>
  have HV : Hid (C = 6 /\ V = evV 0 0 0) := by
   have h1 : C = 6 := by rw [HC.out.1, if_pos h0]
   exact ⟨h1, by rw [HC.out.2, if_neg (show ¬ C = 0 by rw [h1]; decide)]⟩
  have t0 : ((x.sQ p).c == 0) = false := by simpa using h0
  go_wp2
  exact bodyPost_ret (v := .tuple #[evV 0 0 0, .int .i64 6]) (by simp [results, Tryz.results42, go_sem, r0, r1, r2]) rfl ⟨by rw [HV.out.1, HV.out.2], ((BW.out.setCell (Nat.le_succ _) _).setCell (Nat.le_succ _) _).setCell (Nat.le_succ _) _⟩
 have HC2 : Hid (C = (if fuB x p (x.nk p) (x.nq p) = true then 4 else if x.nk p = 3 then tkC x p (if x.nq p = 9 then f else x.nq p) else 0)) := by
  show C = _
  rw [HC.out.1, if_neg (by simpa using h0)]
 rw [h0] at s3
 have HN : Hid (nxK (x.pH p) (x.pL p) (x.sQ p).p (x.sQ p).rs (x.sQ p).os 0 = x.nk p /\ nxP (x.pH p) (x.pL p) (x.sQ p).p (x.sQ p).rs (x.sQ p).os 0 = x.nq p /\ nxW (x.pH p) (x.pL p) (x.sQ p).p (x.sQ p).rs (x.sQ p).os 0 = x.nv p) := by
  refine ⟨?_, ?_, ?_⟩ <;> simp only [SysIn.nk, SysIn.nq, SysIn.nv, h0]
 clear h0
 generalize x.nk p = K at *
 generalize x.nq p = Q at *
 generalize x.nv p = Y at *
 generalize x.sQ p = S at *
 have d1 : W2.heap.size ≠ w.heap.size := by omega
 have d2 : W2.heap.size ≠ bp := by have := zJ W2 _ cp; simp at this; omega
 have d3 : W2.heap.size ≠ bs := by have := zJ W2 _ s0; simp at this; omega
 have d4 : W2.heap.size ≠ w.heap.size + 1 := by omega
 go_wp2_with fail
 go_cut [8, 9] from 25 to 35 (fun s t wx => ∃ N : Nat, s = .pointer (some ⟨N, 0, none⟩) /\ t = .int .i64 0 /\ Hid (Below W2.heap.size W2 wx /\ W2.heap.size <= N /\ EvK wx N K Q Y))
 case first =>
  go_region_held3 (fun w' => w'.cell? ⟨w.heap.size, 0, none⟩ = some (.slice (some ⟨bp, op, none⟩) x.pn x.pc) /\ w'.cell? ⟨w.heap.size, 1, none⟩ = some (.slice (some ⟨bs, os, none⟩) x.sn x.sc) /\ w'.cell? ⟨bp, op + p, none⟩ = some (.slice (some ⟨b', 0, none⟩) (x.pL p) (x.pC p)) /\ w'.cell? ⟨bs, os + p * 4, none⟩ = some (.int .i64 S.p) /\ w'.cell? ⟨bs, os + p * 4 + 1, none⟩ = some (.slice S.ra S.rs.length S.rc) /\ w'.cell? ⟨bs, os + p * 4 + 2, none⟩ = some (.slice S.oa S.os.length S.oc) /\ w'.cell? ⟨bs, os + p * 4 + 3, none⟩ = some (.int .i64 0)) (go_keep)
   (first
    | (go_at_call 101; refine (nextIn_any b' 0 (x.pL p) _ (x.pH p) S.p 0 S.ra S.oa S.rc S.oc S.rs S.os _ HM.out.1 (HI.out _ (by go_grown)).1 (HI.out _ (by go_grown)).2 HM.out.2 (HS.out.1.below (by go_grown)) (HS.out.2.below (by go_grown)) HP.out).mono ?_; rintro e w5 ⟨he, b5⟩; rw [HN.out.1, HN.out.2.1, HN.out.2.2] at he; subst he; have q5 : Below W2.heap.size W2 w5 := below_up (by go_grown) b5 (by simp); obtain ⟨hc5, hf5⟩ := bcell b5; have z5 := b5.size; (try simp only [World.size_alloc, World.size_drew, Nat.add_one_le_iff] at z5); have j5 : W2.heap.size <= w5.heap.size := q5.size; have Q5 : Hid (Below W2.heap.size W2 w5) := q5; have y0 := (q5.cell (p := ⟨w.heap.size, 0, none⟩) (zJ W2 _ b0)).trans b0; have y1 := (q5.cell (p := ⟨w.heap.size, 1, none⟩) (zJ W2 _ b1)).trans b1; have yp := (q5.cell (p := ⟨bp, op + p, none⟩) (zJ W2 _ cp)).trans cp; have x0 := (q5.cell (p := ⟨bs, os + p * 4, none⟩) (zJ W2 _ s0)).trans s0; have x1 := (q5.cell (p := ⟨bs, os + p * 4 + 1, none⟩) (zJ W2 _ s1)).trans s1; have x2 := (q5.cell (p := ⟨bs, os + p * 4 + 2, none⟩) (zJ W2 _ s2)).trans s2; have x3 := (q5.cell (p := ⟨bs, os + p * 4 + 3, none⟩) (zJ W2 _ s3)).trans s3; clear b5 q5))
  all_goals
   go_wp2_with fail
   go_meet
   case rel =>
    first
    | (refine ⟨w5.heap.size, by with_reducible rfl, rfl, ?_⟩
       exact ⟨Q5.out.trans ((zT _ _).mono j5), j5, EvK.new _ _ _ _ _⟩)
    | (refine ⟨W2.heap.size, by with_reducible rfl, rfl, ?_⟩
       exact ⟨((Q5.out.setCell (Nat.le_refl _) _).setCell (Nat.le_refl _) _).setCell (Nat.le_refl _) _, Nat.le_refl _, EvK.put (k := 0) (q := 0) (v := 0) ⟨by rw [hc5 _ _ (by simp)]; simp, by rw [hc5 _ _ (by simp)]; simp, by rw [hc5 _ _ (by simp)]; simp, fun j => by rw [hf5 _ _ (by simp)]; simp⟩ _ _ _⟩)
 case rest =>
  obtain ⟨N, rfl, rfl, HR⟩ := hcut
  clear b0 b1 b2 b3 cp s0 s1 s2 s3 d1 d2 d3 d4 HI HS HP HM hps hsp r0 r1 r2 rf
  have FB : Hid (Below w.heap.size w wc /\ BoxC wc w.heap.size (.slice x.pa x.pn x.pc) (.slice x.sa x.sn x.sc) (.slice x.wa x.wn x.wc) (.slice x.ha x.hn x.hc) /\ EvK wc N K Q Y /\ EvK wc (w.heap.size + 1) 0 0 0) := ⟨BW.out.trans (HR.out.1.mono BW.out.size), NB.out.below HR.out.1, HR.out.2.2, RX.out.below HR.out.1⟩
  have hNz : w.heap.size + 1 < N := zL z2 HR.out.2.1
  have hNl : w.heap.size <= N := by omega
  have d1 : N ≠ w.heap.size := by omega
  have d2 : N ≠ w.heap.size + 1 := by omega
  clear HR NB RX BW z2
  rcases zK (K == 3) with t3 | t3
  case inr =>
   have h3 : ¬ K = 3 := by simpa using t3
   have HFull : Hid (fuB x p K Q = true -> C = 4 /\ V = evV 0 0 0) := fun h => by
    have h1 : C = 4 := by rw [HC2.out, if_pos h]
    exact ⟨h1, by rw [HC.out.2, if_neg (show ¬ C = 0 by rw [h1]; decide)]⟩
   have HFree : Hid (fuB x p K Q = false -> C = 0 /\ V = evV K Q Y) := fun h => by
    have h1 : C = 0 := by rw [HC2.out, if_neg (by rw [h]; decide), if_neg h3]
    exact ⟨h1, by rw [HC.out.2, if_pos h1, if_neg h3]⟩
   have HQ2 : Hid (K = 2 -> 0 <= Q /\ Q < x.pn) := HQ.out
   clear h3 HC HC2 HQ HT
   obtain ⟨m0, m1, m2, m3⟩ := FB.out.2.1
   obtain ⟨n0, n1, n2, -⟩ := FB.out.2.2.1
   go_wp2_with fail
   refine (HF.out K Q Y wc HQ2.out FB.out.1).mono ?_
   rintro e w9 ⟨rfl, b9⟩
   have F9 : Hid (Below w.heap.size w w9 /\ EvK w9 N K Q Y /\ EvK w9 (w.heap.size + 1) 0 0 0) := ⟨FB.out.1.trans (b9.mono FB.out.1.size), FB.out.2.2.1.below b9, FB.out.2.2.2.below b9⟩
   clear b9 m0 m1 m2 m3 n0 n1 n2
   obtain ⟨r0, r1, r2, rf⟩ := F9.out.2.2
   obtain ⟨n0, n1, n2, -⟩ := F9.out.2.1
   have z9 : w.heap.size + 1 < w9.heap.size := zJ w9 _ r0
   rcases zK (fuB x p K Q) with tf | tf
   ·have HV : Hid (C = 4 /\ V = evV 0 0 0) := HFull.out tf
    rw [tf]
    go_wp2
    exact bodyPost_ret (v := .tuple #[evV 0 0 0, .int .i64 4]) (by simp [results, Tryz.results42, go_sem, r0, r1, r2]) rfl ⟨by rw [HV.out.1, HV.out.2], ((F9.out.1.setCell (Nat.le_succ _) _).setCell (Nat.le_succ _) _).setCell (Nat.le_succ _) _⟩
   ·have HV : Hid (C = 0 /\ V = evV K Q Y) := HFree.out tf
    rw [tf]
    go_wp2
    exact bodyPost_ret (v := .tuple #[evV K Q Y, .int .i64 0]) (by simp [results, Tryz.results42, go_sem, r0, r1, r2]) rfl ⟨by rw [HV.out.1, HV.out.2], ((F9.out.1.setCell (Nat.le_succ _) _).setCell (Nat.le_succ _) _).setCell (Nat.le_succ _) _⟩
  case inl =>
   have h3 : K = 3 := by simpa using t3
   subst h3
   clear t3 HQ
   have HPo : Hid (∀ (wx : World), Calls Tryz.prog 103 #[evV 3 Q Y, .int .i64 f] wx fun e w' => e = .returned (.int .i64 (if Q = 9 then f else Q)) /\ Below wx.heap.size wx w') := fun wx => peerOf_any 3 Q Y f wx
   generalize (if Q = 9 then f else Q) = G at *
   obtain ⟨k', q', v', hE, hk2, hE0⟩ := tkV_ev x p G
   have HT2 : Hid (∀ (wx : World), Below w.heap.size w wx -> Calls Tryz.prog 102 #[x.v, .int .i64 p, .int .i64 G] wx fun e w' => e = .returned (.tuple #[evV k' q' v', .int .i64 (tkC x p G)]) /\ Below wx.heap.size wx w') := by
    have := HT.out G
    rw [hE] at this
    exact this
   have HFull : Hid (fuB x p k' q' = true -> C = 4 /\ V = evV 0 0 0) := fun h => by
    have h1 : C = 4 := by rw [HC2.out, if_pos ((fuB_of (by decide) hk2).trans h)]
    exact ⟨h1, by rw [HC.out.2, if_neg (show ¬ C = 0 by rw [h1]; decide)]⟩
   have HFree : Hid (fuB x p k' q' = false -> C = tkC x p G /\ V = evV k' q' v') := fun h => by
    have h1 : C = tkC x p G := by rw [HC2.out, if_neg (by rw [fuB_of (by decide) hk2, h]; decide), if_pos rfl]
    refine ⟨h1, ?_⟩
    rw [HC.out.2]
    by_cases h0 : C = 0
    ·rw [if_pos h0, if_pos rfl, hE]
    ·rw [if_neg h0, hE0 (by rw [<- h1]; exact h0)]
   have HK2 : Hid (k' = 2 -> 0 <= q' /\ q' < (x.pn : Int)) := fun h => absurd h hk2
   clear HC HC2 HT hE hk2 hE0
   generalize tkC x p G = T at *
   obtain ⟨m0, m1, m2, m3⟩ := FB.out.2.1
   obtain ⟨n0, n1, n2, -⟩ := FB.out.2.2.1
   go_wp2_with fail
   go_region_law (first
    | (refine step_call rfl 103 _ _ rfl #[evV 3 Q Y, .int .i64 f] (by simp [Act.eval]) (yA Tryz.func103 (by kernel_rfl) rfl) (HPo.out _) ?_; rintro e w6 ⟨rfl, b6⟩; refine ⟨_, rfl, ?_⟩; have q6 : Below wc.heap.size wc w6 := below_up (by go_grown) b6 (by simp); have Q6 : Hid (Below wc.heap.size wc w6) := q6; have m06 := (q6.cell (p := ⟨w.heap.size, 0, none⟩) (zJ wc _ m0)).trans m0; have m16 := (q6.cell (p := ⟨w.heap.size, 1, none⟩) (zJ wc _ m1)).trans m1; have m26 := (q6.cell (p := ⟨w.heap.size, 2, none⟩) (zJ wc _ m2)).trans m2; have m36 := (q6.cell (p := ⟨w.heap.size, 3, none⟩) (zJ wc _ m3)).trans m3; clear b6 q6)
    | (refine step_call rfl 102 _ _ rfl #[x.v, .int .i64 p, .int .i64 G] (by simp [Act.eval, SysIn.v]) (yA Tryz.func102 (by kernel_rfl) rfl) (HT2.out _ (FB.out.1.trans (Q6.out.mono FB.out.1.size))) ?_; rintro e w7 ⟨rfl, b7⟩; refine ⟨_, rfl, ?_⟩; have q7 : Below wc.heap.size wc w7 := below_up Q6.out b7 Q6.out.size; have Q7 : Hid (Below wc.heap.size wc w7) := q7; have hf7 := (FB.out.2.2.1.below Q7.out).fr; have m07 := (q7.cell (p := ⟨w.heap.size, 0, none⟩) (zJ wc _ m0)).trans m0; have m17 := (q7.cell (p := ⟨w.heap.size, 1, none⟩) (zJ wc _ m1)).trans m1; have m27 := (q7.cell (p := ⟨w.heap.size, 2, none⟩) (zJ wc _ m2)).trans m2; have m37 := (q7.cell (p := ⟨w.heap.size, 3, none⟩) (zJ wc _ m3)).trans m3; have n07 := (q7.cell (p := ⟨N, 0, none⟩) (zJ wc _ n0)).trans n0; have n17 := (q7.cell (p := ⟨N, 1, none⟩) (zJ wc _ n1)).trans n1; have n27 := (q7.cell (p := ⟨N, 2, none⟩) (zJ wc _ n2)).trans n2; clear b7 q7))
   all_goals
    go_upto_region 9 with fail
    have FD : Hid (Below w.heap.size w w7 /\ BoxC w7 w.heap.size (.slice x.pa x.pn x.pc) (.slice x.sa x.sn x.sc) (.slice x.wa x.wn x.wc) (.slice x.ha x.hn x.hc) /\ EvK w7 N 3 Q Y /\ EvK w7 (w.heap.size + 1) 0 0 0) := ⟨FB.out.1.trans (Q7.out.mono FB.out.1.size), FB.out.2.1.below Q7.out, FB.out.2.2.1.below Q7.out, FB.out.2.2.2.below Q7.out⟩
    have FE : Hid (Below w.heap.size w (((w7.setCell ⟨N, 0, none⟩ (.int .i64 k')).setCell ⟨N, 1, none⟩ (.int .i64 q')).setCell ⟨N, 2, none⟩ (.int .i64 v')) /\ BoxC (((w7.setCell ⟨N, 0, none⟩ (.int .i64 k')).setCell ⟨N, 1, none⟩ (.int .i64 q')).setCell ⟨N, 2, none⟩ (.int .i64 v')) w.heap.size (.slice x.pa x.pn x.pc) (.slice x.sa x.sn x.sc) (.slice x.wa x.wn x.wc) (.slice x.ha x.hn x.hc) /\ EvK (((w7.setCell ⟨N, 0, none⟩ (.int .i64 k')).setCell ⟨N, 1, none⟩ (.int .i64 q')).setCell ⟨N, 2, none⟩ (.int .i64 v')) N k' q' v' /\ EvK (((w7.setCell ⟨N, 0, none⟩ (.int .i64 k')).setCell ⟨N, 1, none⟩ (.int .i64 q')).setCell ⟨N, 2, none⟩ (.int .i64 v')) (w.heap.size + 1) 0 0 0) := ⟨((FD.out.1.setCell (p := ⟨N, 0, none⟩) hNl _).setCell (p := ⟨N, 1, none⟩) hNl _).setCell (p := ⟨N, 2, none⟩) hNl _, FD.out.2.1.put3N d1 _ _ _, FD.out.2.2.1.put _ _ _, FD.out.2.2.2.putN d2 _ _ _⟩
    generalize ((w7.setCell ⟨N, 0, none⟩ (.int .i64 k')).setCell ⟨N, 1, none⟩ (.int .i64 q')).setCell ⟨N, 2, none⟩ (.int .i64 v') = wd at *
    clear FD FB Q6 Q7 HPo HT2 m06 m16 m26 m36 m07 m17 m27 m37 n07 n17 n27 hf7 m0 m1 m2 m3 n0 n1 n2
    obtain ⟨m0, m1, m2, m3⟩ := FE.out.2.1
    obtain ⟨n0, n1, n2, -⟩ := FE.out.2.2.1
    go_wp2_with fail
    refine (HF.out k' q' v' wd HK2.out FE.out.1).mono ?_
    rintro e w9 ⟨rfl, b9⟩
    have F9 : Hid (Below w.heap.size w w9 /\ EvK w9 N k' q' v' /\ EvK w9 (w.heap.size + 1) 0 0 0) := ⟨FE.out.1.trans (b9.mono FE.out.1.size), FE.out.2.2.1.below b9, FE.out.2.2.2.below b9⟩
    clear b9 m0 m1 m2 m3 n0 n1 n2
    obtain ⟨r0, r1, r2, rf⟩ := F9.out.2.2
    obtain ⟨n0, n1, n2, -⟩ := F9.out.2.1
    have z9 : w.heap.size + 1 < w9.heap.size := zJ w9 _ r0
    rcases zK (fuB x p k' q') with tf | tf
    ·have HV : Hid (C = 4 /\ V = evV 0 0 0) := HFull.out tf
     rw [tf]
     go_wp2
     exact bodyPost_ret (v := .tuple #[evV 0 0 0, .int .i64 4]) (by simp [results, Tryz.results42, go_sem, r0, r1, r2]) rfl ⟨by rw [HV.out.1, HV.out.2], ((F9.out.1.setCell (Nat.le_succ _) _).setCell (Nat.le_succ _) _).setCell (Nat.le_succ _) _⟩
    ·have HV : Hid (C = T /\ V = evV k' q' v') := HFree.out tf
     rw [tf]
     go_wp2
     exact bodyPost_ret (v := .tuple #[evV k' q' v', .int .i64 T]) (by simp [results, Tryz.results42, go_sem, r0, r1, r2]) rfl ⟨by rw [HV.out.1, HV.out.2], ((F9.out.1.setCell (Nat.le_succ _) _).setCell (Nat.le_succ _) _).setCell (Nat.le_succ _) _⟩
theorem cmC_y (x : SysIn) (p : Nat) (f : Int) : cmC x p f = cmS x.y p f := rfl
end Go.Proofs.YtcplnkhdclcgfaaGreatDoor
