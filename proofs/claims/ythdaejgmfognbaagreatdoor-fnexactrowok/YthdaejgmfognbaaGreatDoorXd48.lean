/- Proved: called with whatever system and row, the program's RowOk answers as the model's RowOk, and writes into no argument. One condition, tied to the program's text: errors.errorType holds what its text lays. -/
import Derived.Test.YthdaejgmfognbaaGreatDoorXd0
import Derived.Test.YthdaejgmfognbaaGreatDoorXd44
import Derived.Test.YthdaejgmfognbaaGreatDoorXd47
import Derived.Test.YthdaejgmfognbaaGreatDoorXd46
import Derived.Test.YthdaejgmfognbaaGreatDoorXd41
import Derived.Test.YthdaejgmfognbaaGreatDoorCards
import Derived.SevenTiedAt
namespace Go.Proofs.YthdaejgmfognbaaGreatDoor
set_option maxRecDepth 100000
set_option maxHeartbeats 4000000
open Go.ChangeShapes Go.WideShapes Go.ChangeAt Go.RowKit Go.Deep
theorem rowOkLaw_small (x : SysIn) (la : Option Addr) (n lc : Nat) (h : Nat -> Wo2) (W : World) (hs : x.size + n <= 1048576) (hA : x.Ok W) (hP : CopiesWo W la n lc h) (hV : W.cell? ⟨0, 0, none⟩ = some (.iface 266 (.agg #[.pointer (some ⟨1, 211, none⟩)]))) :
  Calls Tryz.prog 8 #[sysV x.pa x.pn x.pc x.sa x.sn x.sc x.wa x.wn x.wc x.ha x.hn x.hc, .slice la n lc] W fun e w' => e = .returned (.bool true) /\ Below W.heap.size W w' := by
 have HS : Hid (x.size <= 1048576) := by show x.size <= 1048576; omega
 have HNn : Hid (n <= 1048576) := by show n <= 1048576; omega
 have HP : Hid (CopiesWo W la n lc h) := hP
 have hsz2 : ¬ (1048576 - (x.size : Int) - (n : Int) < 0) := by omega
 have HZ2 : Hid ((n : Int) <= 1048576 - (x.size : Int) /\ 1048576 - (x.size : Int) <= 1048576) := ⟨by omega, by omega⟩
 have HA : Hid (x.Ok W) := hA
 have HV : Hid (W.cell? ⟨0, 0, none⟩ = some (.iface 266 (.agg #[.pointer (some ⟨1, 211, none⟩)]))) := hV
 have HV0 : Hid (0 < W.heap.size) := zJ W _ hV
 have hsz : ¬ (1048576 - (x.size : Int) < 0) := by omega
 have X0 : Hid (Px W x (W.alloc (.cells #[.slice x.pa x.pn x.pc, .slice x.sa x.sn x.sc, .slice x.wa x.wn x.wc, .slice x.ha x.hn x.hc] 58))) := ⟨below_allocS _ _, BoxC.new W _ _ _ _ _, by simp⟩
 obtain ⟨T, hT⟩ : ∃ T, rwB x.y h n = T := ⟨_, rfl⟩
 have HT : Hid (rwB x.y h n = T) := hT
 clear hT
 clear hs hA hV hP
 go_enter Tryz.func8, Tryz.ntmps8
 go_wp2_with fail
 generalize W.alloc (.cells #[.slice x.pa x.pn x.pc, .slice x.sa x.sn x.sc, .slice x.wa x.wn x.wc, .slice x.ha x.hn x.hc] 58) = wA at *
 refine (szSys_small x wA (HA.out.row.below X0.out.be) HS.out).mono ?_
 rintro e w0 ⟨rfl, b0⟩
 have X1 : Hid (Px W x w0) := X0.out.below b0
 clear b0 X0
 go_wp2_with fail
 refine (szWhoS_small la n lc _ w0 HZ2.out.1 HZ2.out.2).mono ?_
 rintro e w0b ⟨rfl, rfl⟩
 obtain ⟨-, ⟨p0, p1, p2, p3⟩, lt⟩ := X1.out
 go_wp2_with fail
 clear p0 p1 p2 p3 lt
 refine (toSys_any x W w0b HS.out HA.out X1.out.be).mono ?_
 rintro e w1 ⟨v1, rfl, o1, b1⟩
 obtain ⟨x1, rfl, g1, y1, cp1⟩ := o1.g2
 have O1 : Hid (SysG w1 x1 /\ x1.y = x.y /\ ∀ i, i < x1.hn -> x1.hL i <= x1.hC i) := ⟨g1, y1, cp1⟩
 have X2 : Hid (Px W x w1) := X1.out.below b1
 clear b1 X1 o1 g1 y1 cp1
 go_wp2_with fail
 refine (HP.out w1 X2.out.be).mono ?_
 rintro e w1b ⟨rfl, oc, ltc, b1b, -⟩
 have X2b : Hid (Px W x w1b) := X2.out.below b1b
 have O1b : Hid (SysG w1b x1 /\ x1.y = x.y /\ (∀ i, i < x1.hn -> x1.hL i <= x1.hC i) /\ WoL w1b (some ⟨w1.heap.size, 0, none⟩) n h) := ⟨O1.out.1.below b1b, O1.out.2.1, O1.out.2.2, .inr ⟨_, _, rfl, ltc, oc⟩⟩
 clear b1b oc ltc O1 X2
 generalize w1.heap.size = N1 at *
 go_wp2_with fail
 refine (specRowOk_any x1 (some ⟨N1, 0, none⟩) n n h w1b O1b.out.1 (SysIn.len_of HS.out O1b.out.2.1) O1b.out.2.2.1 O1b.out.2.2.2 HNn.out).mono ?_
 rintro e w2 ⟨rfl, b2⟩
 have X3 : Hid (Px W x w2) := X2b.out.below b2
 rw [O1b.out.2.1, HT.out]
 clear b2 X2b O1b
 obtain ⟨-, ⟨p0, p1, p2, p3⟩, lt⟩ := X3.out
 go_wp2_with fail
 clear p0 p1 p2 p3 lt
 refine (toSys_any x W w2 HS.out HA.out X3.out.be).mono ?_
 rintro e w3 ⟨v3, rfl, o3, b3⟩
 obtain ⟨x3, rfl, g3, y3, cp3⟩ := o3.g2
 have ba : Below w3.heap.size w3 (w3.alloc (oQ4 x3.pa x3.pn x3.pc x3.sa x3.sn x3.sc x3.wa x3.wn x3.wc x3.ha x3.hn x3.hc)) := below_allocS _ _
 have X4 : Hid (Px W x w3) := X3.out.below b3
 have Xa : Hid (Px W x (w3.alloc (oQ4 x3.pa x3.pn x3.pc x3.sa x3.sn x3.sc x3.wa x3.wn x3.wc x3.ha x3.hn x3.hc))) := X4.out.below ba
 have Sa : Hid (IsSys (w3.alloc (oQ4 x3.pa x3.pn x3.pc x3.sa x3.sn x3.sc x3.wa x3.wn x3.wc x3.ha x3.hn x3.hc)) w2.heap.size w3.heap.size x x3.v) := o3.below ba (Nat.le_refl _)
 have Ga : Hid (SysG (w3.alloc (oQ4 x3.pa x3.pn x3.pc x3.sa x3.sn x3.sc x3.wa x3.wn x3.wc x3.ha x3.hn x3.hc)) x3 /\ x3.y = x.y /\ ∀ i, i < x3.hn -> x3.hL i <= x3.hC i) := ⟨g3.below ba, y3, cp3⟩
 have Qa : Hid (BoxC (w3.alloc (oQ4 x3.pa x3.pn x3.pc x3.sa x3.sn x3.sc x3.wa x3.wn x3.wc x3.ha x3.hn x3.hc)) w3.heap.size (.slice x3.pa x3.pn x3.pc) (.slice x3.sa x3.sn x3.sc) (.slice x3.wa x3.wn x3.wc) (.slice x3.ha x3.hn x3.hc) /\ w3.heap.size < (w3.alloc (oQ4 x3.pa x3.pn x3.pc x3.sa x3.sn x3.sc x3.wa x3.wn x3.wc x3.ha x3.hn x3.hc)).heap.size) := ⟨BoxC.new w3 _ _ _ _ _, by simp⟩
 clear b3 X3 o3 X4 ba g3 y3 cp3
 go_wp2_with fail
 generalize w3.alloc (oQ4 x3.pa x3.pn x3.pc x3.sa x3.sn x3.sc x3.wa x3.wn x3.wc x3.ha x3.hn x3.hc) = wB at *
 refine (HP.out wB Xa.out.be).mono ?_
 rintro e wC ⟨rfl, oC, ltC, bC, -⟩
 have Xc : Hid (Px W x wC) := Xa.out.below bC
 have Sc : Hid (IsSys wC w2.heap.size w3.heap.size x x3.v) := Sa.out.below bC (Nat.le_of_lt Qa.out.2)
 have Gc : Hid (SysG wC x3 /\ x3.y = x.y /\ ∀ i, i < x3.hn -> x3.hL i <= x3.hC i) := ⟨Ga.out.1.below bC, Ga.out.2⟩
 have Qc : Hid (BoxC wC w3.heap.size (.slice x3.pa x3.pn x3.pc) (.slice x3.sa x3.sn x3.sc) (.slice x3.wa x3.wn x3.wc) (.slice x3.ha x3.hn x3.hc) /\ w3.heap.size < wC.heap.size) := ⟨Qa.out.1.below bC, zL Qa.out.2 bC.size⟩
 have Oc : Hid (WoAt wC wB.heap.size 0 n h /\ wB.heap.size < wC.heap.size /\ w3.heap.size < wB.heap.size) := ⟨oC, ltC, Qa.out.2⟩
 clear bC oC ltC Xa Sa Ga Qa
 generalize hNB : wB.heap.size = NB at *
 clear hNB
 obtain ⟨q0, q1, q2, q3⟩ := Qc.out.1
 go_wp2_with fail
 clear q0 q1 q2 q3
 refine (implRowOk_any x3 (some ⟨NB, 0, none⟩) n n h wC Gc.out.1 (SysIn.len_of HS.out Gc.out.2.1) (.inr ⟨_, _, rfl, Oc.out.2.1, Oc.out.1⟩) HNn.out ((Xc.out.be.cell (p := ⟨0, 0, none⟩) HV0.out).trans HV.out)).mono ?_
 rintro e w5 ⟨rfl, b5⟩
 rw [Gc.out.2.1, HT.out]
 have S5 : Hid (IsSys w5 w2.heap.size w3.heap.size x x3.v) := Sc.out.below b5 (Nat.le_of_lt Qc.out.2)
 have X6 : Hid (Px W x w5) := Xc.out.below b5
 have Q5 : Hid (BoxC w5 w3.heap.size (.slice x3.pa x3.pn x3.pc) (.slice x3.sa x3.sn x3.sc) (.slice x3.wa x3.wn x3.wc) (.slice x3.ha x3.hn x3.hc) /\ w3.heap.size < w5.heap.size) := ⟨Qc.out.1.below b5, zL Qc.out.2 b5.size⟩
 have O5 : Hid (WoAt w5 NB 0 n h /\ NB < w5.heap.size) := ⟨Oc.out.1.below b5 Oc.out.2.1, zL Oc.out.2.1 b5.size⟩
 clear b5 Xc Sc Qc Gc Oc HT
 obtain ⟨-, ⟨p0, p1, p2, p3⟩, lt⟩ := X6.out
 obtain ⟨⟨q0, q1, q2, q3⟩, lq⟩ := Q5.out
 go_wp2_with fail
 first | (go_region_with (first | (go_at_call 30; refine (toSys_any x W _ HS.out HA.out (by exact X6.out.be.drew)).mono ?_; rintro e w6 ⟨v6, rfl, o6, b6⟩; have q6 : Below w5.heap.size w5 w6 := (Below.refl w5.heap.size w5).drew.trans b6; have T6 : Hid (∃ l, IsSys w6 l w6.heap.size x v6) := ⟨_, o6⟩; obtain ⟨r0, r1, r2, r3⟩ := Q5.out.1.below q6; have Q6 : Hid (Below w5.heap.size w5 w6) := q6; clear o6 b6 q6) | (go_at_call 32; refine (eqSys_same x w2.heap.size w3.heap.size T6.out.choose _ _ v6 w6 HS.out (S5.out.below Q6.out (by obtain ⟨_, _, _, _, _, _, _, _, _, _, _, q⟩ := S5.out; exact q.hi.2.2.2.1)) T6.out.choose_spec).mono ?_; rintro e w7 ⟨rfl, b7⟩; have Q7 : Hid (Below w5.heap.size w5 w7) := Q6.out.trans (b7.mono Q6.out.size); clear b7))) | fail
 all_goals
  clear r0 r1 r2 r3 p0 p1 p2 p3 lt q0 q1 q2 q3 lq T6 Q6
  have X8 : Hid (Px W x w7) := X6.out.below Q7.out
  have O8 : Hid (WoAt w7 NB 0 n h /\ NB < w7.heap.size) := ⟨O5.out.1.below Q7.out O5.out.2, zL O5.out.2 Q7.out.size⟩
  clear Q7 X6 S5 Q5 O5
  go_wp2_with fail
  refine (HP.out w7 X8.out.be).mono ?_
  rintro e w8 ⟨rfl, o8, l8, b8, -⟩
  have X9 : Hid (Px W x w8 /\ (WoAt w8 NB 0 n h /\ NB < w8.heap.size) /\ WoAt w8 w7.heap.size 0 n h /\ w7.heap.size < w8.heap.size) := ⟨X8.out.below b8, ⟨O8.out.1.below b8 O8.out.2, zL O8.out.2 b8.size⟩, o8, l8⟩
  clear b8 o8 l8 X8 O8
  go_wp2_with fail
  refine (eqWhoS_same _ _ n _ _ h w8 HNn.out X9.out.2.1.2 X9.out.2.2.2 X9.out.2.1.1 X9.out.2.2.1).mono ?_
  rintro e w9 ⟨rfl, b9⟩
  have X10 : Hid (Px W x w9) := X9.out.1.below b9
  clear b9 X9
  go_wp2
  go_ret
  exact ⟨rfl, X10.out.be⟩
theorem rowOkLaw_great (x : SysIn) (la : Option Addr) (n lc : Nat) (W : World) (hr : x.Row W) (hm : x.Max) (hs : 1048576 < x.size) :
  Calls Tryz.prog 8 #[sysV x.pa x.pn x.pc x.sa x.sn x.sc x.wa x.wn x.wc x.ha x.hn x.hc, .slice la n lc] W fun e w' => e = .returned (.bool true) /\ Below W.heap.size W w' := by
 have HR : Hid (x.Row W) := hr
 have HM : Hid x.Max := hm
 have HS : Hid (1048576 < x.size) := hs
 clear hr hm hs
 go_enter Tryz.func8, Tryz.ntmps8
 go_wp2_with fail
 refine (szSys_great x _ (HR.out.below (below_allocS _ _)) HM.out HS.out).mono ?_
 rintro e w0 ⟨rfl, b0⟩
 have B0 : Hid (Below W.heap.size W w0) := (below_allocS _ _).trans (b0.mono (by simp))
 clear b0
 go_wp2
 go_ret
 exact ⟨rfl, B0.out⟩
theorem rowOkLaw_long (x : SysIn) (la : Option Addr) (n lc : Nat) (W : World) (hs : x.size <= 1048576) (hA : x.Ok W) (hn : 1048576 < x.size + n) (hm : n <= maxLen) :
  Calls Tryz.prog 8 #[sysV x.pa x.pn x.pc x.sa x.sn x.sc x.wa x.wn x.wc x.ha x.hn x.hc, .slice la n lc] W fun e w' => e = .returned (.bool true) /\ Below W.heap.size W w' := by
 have HS : Hid (x.size <= 1048576 /\ 1048576 - (x.size : Int) < (n : Int) /\ 0 <= 1048576 - (x.size : Int) /\ 1048576 - (x.size : Int) <= 1048576 /\ n <= maxLen) := ⟨hs, by omega, by omega, by omega, hm⟩
 have HA : Hid (x.Ok W) := hA
 have hsz : ¬ (1048576 - (x.size : Int) < 0) := by omega
 clear hs hA hn hm
 go_enter Tryz.func8, Tryz.ntmps8
 go_wp2_with fail
 refine (szSys_small x _ (HA.out.row.below (below_allocS _ _)) HS.out.1).mono ?_
 rintro e w0 ⟨rfl, b0⟩
 have B0 : Hid (Below W.heap.size W w0) := (below_allocS _ _).trans (b0.mono (by simp))
 clear b0
 go_wp2_with fail
 refine (szWhoS_great la n lc _ w0 HS.out.2.1 HS.out.2.2.1 HS.out.2.2.2.1 HS.out.2.2.2.2).mono ?_
 rintro e w1 ⟨rfl, rfl⟩
 go_wp2
 go_ret
 exact ⟨rfl, B0.out⟩
theorem rowOkLifted (os : Os) (started : os.Started) (H : Type) (enc : TypeId × Value -> H) :
  ReturnsInHanded {} Tryz.checked os 8 .any (fun w args => (Rows.fnExactRowOkSpec.pre enc Tryz.prog Tryz.f8 [] false w args /\ laidMetH Tryz.prog [("errors.errorType", Rows.laid_errors_errorType)] w) /\ sizedMet enc Tryz.prog Tryz.f8 (OpenSpec.ofChange Rows.fnExactRowOkSpec) false w args)
   (Rows.fnExactRowOkSpec.post enc Tryz.prog Tryz.f8 false true false false) := by
 refine returnsInHanded_of_change_and (C := Tryz.checked) (X := fun w _ => laidMetH Tryz.prog [("errors.errorType", Rows.laid_errors_errorType)] w) (fun _ _ _ hh h => h.of_heap hh) Tryz.own started (by kernel_rfl) Tryz.func8
  (ChangeSpec.witness_at (enc := enc) (C := Tryz.checked) (os := os) (X := fun w _ => laidMetH Tryz.prog [("errors.errorType", Rows.laid_errors_errorType)] w) false (laidWorld os) #[sysV none 0 0 none 0 0 none 0 0 none 0 0, .slice none 0 0] 8 rfl (by kernel_rfl) (by kernel_rfl) (by kernel_rfl) (by kernel_rfl) (by kernel_rfl) (laidWorld_met os _)) ?_
 intro W base args ds gs before hval0 hW _ _ hL _
 have hval : ∀ (j : Nat) t v, Tryz.f8.params[j]? = some t -> args[j]? = some v -> Value.okWide Tryz.prog W .any base t v := hval0
 have hW' := hW
 obtain ⟨p, q, hA0, hV, rfl, hfz, hnd⟩ := hW
 have hA : DataW.TrodAll enc Tryz.prog W 0 (fun _ => true) true Tryz.f8.params.toList args.toList ds p := hA0
 rw [Tryz.params8] at hA hval
 obtain ⟨v0, v1, d0, d1, p0, p1, rfl, rfl, rfl, h0, h1⟩ := trodAll_two hA
 obtain ⟨rfl, rfl⟩ := trodVars_none hV
 have lt0 : ∀ x ∈ p0, x.block < W.heap.size := by obtain ⟨m, hm⟩ := h0; exact DataW.trod_lt m _ _ _ hm
 have lt1 : ∀ x ∈ p1, x.block < W.heap.size := by obtain ⟨m, hm⟩ := h1; exact DataW.trod_lt m _ _ _ hm
 have hg := handle_of_laid hL
 clear hA0 hval0
 have hlaw : Calls Tryz.prog 8 #[v0, v1] W fun e w' => e = .returned (.bool true) /\ Below W.heap.size W w' := by
  obtain ⟨la, n, lc, rfl⟩ := okWide_slice Tryz.underlying66 (hval 1 66 v1 rfl rfl)
  obtain ⟨hnl, hrow⟩ := open_woRow h1
  obtain ⟨x, e, hr, hm, hy⟩ := open_sys (hval 0 58 v0 rfl rfl) h0
  by_cases hs : x.size <= 1048576
  ·obtain ⟨y, ey, hok, hys⟩ := hy hs
   rw [ey]
   by_cases hn : y.size + n <= 1048576
   ·obtain ⟨h, hP⟩ := copiesWo_of (cap := lc) (by omega) hrow
    exact rowOkLaw_small y la n lc h W hn hok hP hg
   ·exact rowOkLaw_long y la n lc W hys hok (by omega) hnl
  ·rw [e]
   exact rowOkLaw_great x la n lc W hr hm (by omega)
 refine hlaw.mono fun e W' ⟨he, bel⟩ => ?_
 subst he
 exact ⟨_, rfl, _, _, _, [], _, [], hW', trodAll_mk1 (shut_bool Tryz.underlying4 _), (trodAll_cons_mk (Below.trod Tryz.laidOut (by kernel_rfl) (of_decide_eq_true (by kernel_rfl)) h0 bel lt0) (trodAll_cons_mk (Below.trod Tryz.laidOut (by kernel_rfl) (of_decide_eq_true (by kernel_rfl)) h1 bel lt1) trodAll_mk0)), rfl, bel.frame _, fun h => by cases h⟩
theorem rowOkSaid : Rows.FnExactRowOkSaid :=
 OpenClaim.holds_of_wide 8 Tryz.f8 rfl rfl rfl rfl rfl rfl rfl ⟨rfl, rfl, rfl, rfl, rfl⟩ rfl rfl rfl rfl rfl (by kernel_rfl) Tryz.func8 (by kernel_rfl)
  (of_decide_eq_true (by kernel_rfl)) (by unfold Func.isWrapper; first | (rw [if_pos (by decide +kernel)]; kernel_rfl) | (rw [if_neg (by decide +kernel)]; exact ⟨rfl, rfl⟩))
  (fun os started H enc _ => rowOkLifted os started H enc)
theorem rowOkPlain (f : FuncId) (fn : Func) (hf : Tryz.pinned.checked.prog.funcNamed "loop.example/g00196/laws.FnExactRowOk" = some f) (hfn : Tryz.pinned.checked.prog.funcs[f]? = some fn) :
  true = Tryz.pinned.checked.prog.looks [] /\ ∀ (j : Nat) t, fn.params[j]? = some t -> Tryz.pinned.checked.prog.wantsStandIn t = false := by
 obtain rfl : f = 8 := Option.some.inj ((show Tryz.prog.funcNamed "loop.example/g00196/laws.FnExactRowOk" = some 8 by kernel_rfl).symm.trans hf) |>.symm
 obtain rfl : fn = Tryz.f8 := (Option.some.inj (Tryz.func8.symm.trans hfn)).symm
 refine ⟨by kernel_rfl, fun j t ht => ?_⟩
 rw [Tryz.params8] at ht
 have hm := Array.mem_of_getElem? ht
 simp at hm
 rcases hm with rfl | rfl
 ·exact (show Tryz.prog.wantsStandIn 58 = false by kernel_rfl)
 ·exact (show Tryz.prog.wantsStandIn 66 = false by kernel_rfl)
theorem rowOk_card : Rows.FnExactRowOkCardSaid :=
 Claim7.holds_tied_plain_at .later [] _ _ _ _ rowOkSaid (fun _ h => by cases h) (by kernel_rfl) (fun _ h => by cases h) fnExactRowOk_row_tie rfl ⟨rfl, rfl⟩ (by kernel_rfl) rfl rowOkPlain (by kernel_rfl)
end Go.Proofs.YthdaejgmfognbaaGreatDoor
