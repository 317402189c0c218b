/- The walks of Sender, the model's and the program's. -/
import Derived.Test.YtdigofhceahpdaaGreatDoorSb40
import Derived.Test.YtdigofhceahpdaaGreatDoorSb49
import Derived.Deep.RegionWith
import Derived.Deep.RegionLaw
import Derived.BigQuiet
namespace Go.Proofs.YtdigofhceahpdaaGreatDoor
open Go.ChangeShapes Go.WideShapes Go.ChangeAt Go.RowKit Go.Deep Go.Sort
def sndN (y : Sy) (p i : Nat) : Int := if (y.hH p i).k = 3 then nthV (y.hH (y.hH p i).q.toNat) 2 p (y.hL (y.hH p i).q.toNat) ((plN (y.hH p) 3 (y.hH p i).q i).length : Nat) else -1
open Classical in
noncomputable def hasB (y : Sy) (p i : Int) : Bool := y.okB && belB p y.pn && belB i (y.hL p.toNat)
open Classical in
noncomputable def sndS (y : Sy) (p i : Int) : Int := if hasB y p i = true then sndN y p.toNat i.toNat else -1
theorem Sy.Ok.evq {y : Sy} (h : y.Ok) {p i : Nat} (hp : p < y.pn) (hi : i < y.hL p) : 0 ≤ (y.hH p i).q ∧ (y.hH p i).q < (y.pn : Int) := ⟨rp_peer (repO_some (h.rp p hp)).2.2 i hi, h.pe p hp i hi⟩
theorem Sy.Ok.hl200 {y : Sy} (h : y.Ok) {p : Nat} (hp : p < y.pn) : y.hL p ≤ 200 := (repO_some (h.rp p hp)).2.1
theorem hasB_parts {y : Sy} {p i : Int} (h : hasB y p i = true) : y.Ok ∧ ∃ a b : Nat, p = a ∧ i = b ∧ a < y.pn ∧ b < y.hL a := by
 simp only [hasB, Bool.and_eq_true, belB, decide_eq_true_eq] at h
 obtain ⟨⟨h1, h2⟩, h3⟩ := h
 refine ⟨Sy.ok_of h1, p.toNat, i.toNat, by omega, by omega, by omega, by omega⟩
set_option maxRecDepth 100000 in
set_option maxHeartbeats 1000000 in
theorem l7Sender_any (x : SysIn) (p i : Nat) (w : World) (hG : SysG w x) (hcap : ∀ i, i < x.hn → x.hL i ≤ x.hC i) (hO : x.y.Ok) (hp : p < x.pn) (hi : i < x.hL p) :
   Calls Tryz.prog 53 #[x.v, .int .i64 p, .int .i64 i] w fun e w' => e = .returned (.int .i64 (sndN x.y p i)) ∧ Below w.heap.size w w' := by
 have hhn : x.hn = x.pn := hO.cn.2.2.1
 have hph : p < x.hn := by omega
 have hq : 0 ≤ (x.hH p i).q ∧ (x.hH p i).q < (x.pn : Int) := hO.evq hp hi
 have hlp : x.hL p ≤ 200 := hO.hl200 hp
 obtain ⟨q, hqe⟩ : ∃ q : Nat, (x.hH p i).q = q := ⟨(x.hH p i).q.toNat, by omega⟩
 have hqn : q < x.hn := by omega
 have hlq : x.hL q ≤ 200 := hO.hl200 (by show q < x.pn; omega)
 have hcp := hcap p hph
 have hph' : (p : Int) < (x.hn : Int) := by omega
 have hqn' : (q : Int) < (x.hn : Int) := by omega
 have hi' : (i : Int) < (x.hL p : Int) := by omega
 have HG : Hid (SysG w x) := hG
 have HV : Hid (sndN x.y p i = if (x.hH p i).k = 3 then nthV (x.hH q) 2 p (x.hL q) ((plN (x.hH p) 3 q i).length : Nat) else -1) := by
   show sndN x.y p i = _
   unfold sndN
   show (if (x.hH p i).k = 3 then nthV (x.hH (x.hH p i).q.toNat) 2 p (x.hL (x.hH p i).q.toNat) ((plN (x.hH p) 3 (x.hH p i).q i).length : Nat) else -1) = _
   rw [hqe, Int.toNat_natCast]
 have hcn : (plN (x.hH p) 3 q i).length ≤ i := plN_le _ _ _ _
 have ks := slice_to (x.hA p) (x.hL p) (x.hC p) i (by omega)
 have HCk : Hid (∀ wx, Below w.heap.size w wx → Calls Tryz.prog 108 #[.slice (x.hA p) i (x.hC p), .int .i64 3, .int .i64 q] wx fun e w' => e = .returned (.int .i64 ((plN (x.hH p) 3 q i).length : Nat)) ∧ Below wx.heap.size wx w') := fun wx hb => specCount_l (x.hA p) i (x.hC p) (x.hH p) 3 q wx (by omega) (((hG.below hb).hi p hph).take (by omega))
 have HNt : Hid (∀ wx, Below w.heap.size w wx → Calls Tryz.prog 107 #[.slice (x.hA q) (x.hL q) (x.hC q), .int .i64 2, .int .i64 p, .int .i64 ((plN (x.hH p) 3 q i).length : Nat)] wx fun e w' => e = .returned (.int .i64 (nthV (x.hH q) 2 p (x.hL q) ((plN (x.hH p) 3 q i).length : Nat))) ∧ Below wx.heap.size wx w') := fun wx hb => specNth_l (x.hA q) (x.hL q) (x.hC q) (x.hH q) 2 p _ wx (by omega) ((hG.below hb).hi q hqn) (by omega) (by omega)
 generalize hCn : (plN (x.hH p) 3 q i).length = cn at *
 generalize hNv : nthV (x.hH q) 2 p (x.hL q) (cn : Nat) = nv at *
 have HQ : Hid ((x.hH p i).q = q) := hqe
 clear hG hcap hO hq hqe hNv hCn hhn
 have BW : Hid (Below w.heap.size w (w.alloc (.cells #[.slice x.pa x.pn x.pc, .slice x.sa x.sn x.sc, .slice x.wa x.wn x.wc, .slice x.ha x.hn x.hc] 29))) := below_alloc _ _
 have NB : Hid (BoxC (w.alloc (.cells #[.slice x.pa x.pn x.pc, .slice x.sa x.sn x.sc, .slice x.wa x.wn x.wc, .slice x.ha x.hn x.hc] 29)) w.heap.size (.slice x.pa x.pn x.pc) (.slice x.sa x.sn x.sc) (.slice x.wa x.wn x.wc) (.slice x.ha x.hn x.hc)) := BoxC.new w _ _ _ _ _
 go_enter Tryz.func53, Tryz.ntmps53
 go_upto_region 1 with fail
 generalize w.alloc (.cells #[.slice x.pa x.pn x.pc, .slice x.sa x.sn x.sc, .slice x.wa x.wn x.wc, .slice x.ha x.hn x.hc] 29) = W2 at *
 obtain ⟨-, -, -, b3⟩ := NB.out
 obtain ⟨bh, oh, eh, cp⟩ := (HG.out.below BW.out).h.at hph
 obtain ⟨bh', oh', eh', cq⟩ := (HG.out.below BW.out).h.at hqn
 rw [eh] at eh' b3
 simp only [Option.some.injEq, Addr.mk.injEq] at eh'
 obtain ⟨rfl, rfl, -⟩ := eh'
 obtain ⟨b, off, ea, zb, e0, e1, e2⟩ := ((HG.out.below BW.out).hi p hph).at hi
 rw [ea] at cp ks
 rw [HQ.out] at e1
 have HCk' := HCk.out
 rw [ea] at HCk'
 clear HCk
 have HCk : Hid (∀ wx, Below w.heap.size w wx → Calls Tryz.prog 108 #[.slice (some ⟨b, off, none⟩) i (x.hC p), .int .i64 3, .int .i64 q] wx fun e w' => e = .returned (.int .i64 (cn : Nat)) ∧ Below wx.heap.size wx w') := HCk'
 clear HCk' eh ea
 generalize (x.hH p i).k = K at *
 generalize (x.hH p i).v = V at *
 have BW3 : Hid (Below w.heap.size w (W2.alloc (.cells #[.int .i64 K, .int .i64 q, .int .i64 V] 77))) := BW.out.trans ((below_alloc _ _).mono BW.out.size)
 have c0 := new_cell W2 #[.int .i64 K, .int .i64 q, .int .i64 V] 77 0 rfl
 have c1 := new_cell W2 #[.int .i64 K, .int .i64 q, .int .i64 V] 77 1 rfl
 have b3' := cell_allocs b3 (.cells #[.int .i64 K, .int .i64 q, .int .i64 V] 77)
 have cp' := cell_allocs cp (.cells #[.int .i64 K, .int .i64 q, .int .i64 V] 77)
 have cq' := cell_allocs cq (.cells #[.int .i64 K, .int .i64 q, .int .i64 V] 77)
 go_upto_region 2 with fail
 clear b3 cp cq e0 e1 e2 zb BW NB
 generalize hN2 : W2.heap.size = N2 at *
 clear hN2
 generalize W2.alloc (.cells #[.int .i64 K, .int .i64 q, .int .i64 V] 77) = W3 at *
 rcases Bool.eq_false_or_eq_true (K == 3) with t | t
 case inr =>
   have HV2 : Hid (sndN x.y p i = -1) := by
     show sndN x.y p i = -1
     rw [HV.out, if_neg (by simpa using t)]
   clear HV
   go_wp2
   go_ret
   exact ⟨ret_int HV2.out.symm, BW3.out⟩
 case inl =>
   have HV2 : Hid (sndN x.y p i = nv) := by
     show sndN x.y p i = nv
     rw [HV.out, if_pos (by simpa using t)]
   clear HV
   have q1 := cell_regrown c1
   have q3 := cell_regrown b3'
   have qp := cell_regrown cp'
   have qq := cell_regrown cq'
   have HQ2 : Hid (∀ d os, Below w.heap.size w (grow (redrawn W3 d) os)) := fun d os => BW3.out.trans ((below_regrown W3 d os).mono BW3.out.size)
   go_upto_region 4 with fail
   clear c1 b3' cp' cq'
   refine wp_region_quiet_below (by kernel_rfl) (by kernel_rfl) ?_
   repeat (quiet_step (first | (go_at_call 108; exact Calls.regrown_of (HCk.out _ (HQ2.out _ _))) | (go_at_call 107; exact Calls.regrown_of (HNt.out _ (HQ2.out _ _)))))
   refine wpQuiet_nil ?_
   intro _ hw'
   obtain ⟨⟨dd, os⟩, hw''⟩ := hw'
   subst hw''
   have B3 := HQ2.out dd os
   generalize grow (redrawn W3 dd) os = w3 at *
   go_wp2
   go_ret
   exact ⟨ret_int HV2.out.symm, B3⟩
set_option maxRecDepth 100000 in
set_option maxHeartbeats 1000000 in
theorem l7Has_any (x : SysIn) (p i : Int) (w : World) (hG : SysG w x) (hL : x.Len) (hcap : ∀ i, i < x.hn → x.hL i ≤ x.hC i) :
   Calls Tryz.prog 52 #[x.v, .int .i64 p, .int .i64 i] w fun e w' => e = .returned (.bool (hasB x.y p i)) ∧ Below w.heap.size w w' := by
 have HG : Hid (SysG w x) := hG
 have HL : Hid x.Len := hL
 have HS : Hid (∀ wx, Below w.heap.size w wx → Calls Tryz.prog 24 #[x.v] wx fun e w' => e = .returned (.bool x.y.okB) ∧ Below wx.heap.size wx w') := fun wx hb => specSysOk_any x wx (HG.out.below hb) hL hcap
 have BW : Hid (Below w.heap.size w (w.alloc (.cells #[.slice x.pa x.pn x.pc, .slice x.sa x.sn x.sc, .slice x.wa x.wn x.wc, .slice x.ha x.hn x.hc] 29))) := below_alloc _ _
 have NB : Hid (BoxC (w.alloc (.cells #[.slice x.pa x.pn x.pc, .slice x.sa x.sn x.sc, .slice x.wa x.wn x.wc, .slice x.ha x.hn x.hc] 29)) w.heap.size (.slice x.pa x.pn x.pc) (.slice x.sa x.sn x.sc) (.slice x.wa x.wn x.wc) (.slice x.ha x.hn x.hc)) := BoxC.new w _ _ _ _ _
 clear hG hL hcap
 go_enter Tryz.func52, Tryz.ntmps52
 go_wp2_with fail
 generalize w.alloc (.cells #[.slice x.pa x.pn x.pc, .slice x.sa x.sn x.sc, .slice x.wa x.wn x.wc, .slice x.ha x.hn x.hc] 29) = W2 at *
 refine (HS.out W2 BW.out).mono ?_
 rintro e w1 ⟨rfl, q1⟩
 have B1 : Hid (Below w.heap.size w w1 ∧ BoxC w1 w.heap.size (.slice x.pa x.pn x.pc) (.slice x.sa x.sn x.sc) (.slice x.wa x.wn x.wc) (.slice x.ha x.hn x.hc)) := ⟨BW.out.trans (q1.mono BW.out.size), NB.out.below q1⟩
 clear q1 BW NB HS
 rcases Bool.eq_false_or_eq_true x.y.okB with t | t
 case inr =>
   have HV : Hid (hasB x.y p i = false) := by
     show hasB x.y p i = false
     rw [hasB, t]
     rfl
   rw [t]
   clear t
   go_wp2
   go_ret
   rw [HV.out]
   exact ⟨rfl, B1.out.1⟩
 have HO : Hid x.y.Ok := Sy.ok_of t
 have h4 : (x.pn : Int) ≤ 4 := by have : x.pn ≤ 4 := HO.out.cn.1.2; omega
 have HT : Hid (x.y.okB = true) := t
 rw [t]
 clear t
 obtain ⟨b0, -, -, b3⟩ := B1.out.2
 go_wp2_with fail
 refine (l1In_any _ _ _ _).mono ?_
 rintro e w2 ⟨rfl, rfl⟩
 rcases Bool.eq_false_or_eq_true (inB p 0 ((x.pn : Int) - 1)) with tp | tp
 case inr =>
   have HV : Hid (hasB x.y p i = false) := by
     show hasB x.y p i = false
     have : belB p x.y.pn = false := by
       simp only [inB, decide_eq_false_iff_not] at tp
       simp only [belB, decide_eq_false_iff_not]
       show ¬ (0 ≤ p ∧ p < (x.pn : Int))
       omega
     rw [hasB, this]
     simp
   rw [tp]
   clear tp
   go_wp2
   go_ret
   rw [HV.out]
   exact ⟨rfl, B1.out.1⟩
 have hp0 : 0 ≤ p ∧ p < (x.pn : Int) := by
   simp only [inB, decide_eq_true_eq] at tp
   omega
 obtain ⟨a, rfl⟩ : ∃ a : Nat, p = a := ⟨p.toNat, by omega⟩
 have hhn : x.hn = x.pn := HO.out.cn.2.2.1
 have ha : a < x.hn := by omega
 have ha' : (a : Int) < (x.hn : Int) := by omega
 have hl : (x.hL a : Int) ≤ 200 := by have : x.hL a ≤ 200 := HO.out.hl200 (by show a < x.pn; omega); omega
 obtain ⟨bh, oh, eh, ca⟩ := (HG.out.below B1.out.1).h.at ha
 rw [eh] at b3
 rw [tp]
 have HV : Hid (hasB x.y a i = inB i 0 ((x.hL a : Int) - 1)) := by
   show hasB x.y a i = _
   have h1 : belB (a : Int) x.y.pn = true := by
     simp only [belB, decide_eq_true_eq]
     show 0 ≤ (a : Int) ∧ (a : Int) < (x.pn : Int)
     omega
   rw [hasB, HT.out, h1, Int.toNat_natCast]
   show belB i (x.hL a) = _
   simp only [belB, inB]
   by_cases h : 0 ≤ i ∧ i < (x.hL a : Int)
   · rw [decide_eq_true h, decide_eq_true (by omega)]
   · rw [decide_eq_false h, decide_eq_false (by omega)]
 clear tp eh hhn hp0
 go_wp2_with fail
 refine (l1In_any _ _ _ _).mono ?_
 rintro e w2 ⟨rfl, rfl⟩
 rw [← HV.out]
 go_wp2
 go_ret
 exact ⟨rfl, B1.out.1⟩
set_option maxRecDepth 100000 in
set_option maxHeartbeats 1000000 in
theorem specSender_any (x : SysIn) (p i : Int) (w : World) (hG : SysG w x) (hL : x.Len) (hcap : ∀ i, i < x.hn → x.hL i ≤ x.hC i) :
   Calls Tryz.prog 19 #[x.v, .int .i64 p, .int .i64 i] w fun e w' => e = .returned (.int .i64 (sndS x.y p i)) ∧ Below w.heap.size w w' := by
 have HS : Hid (∀ wx, Below w.heap.size w wx → Calls Tryz.prog 52 #[x.v, .int .i64 p, .int .i64 i] wx fun e w' => e = .returned (.bool (hasB x.y p i)) ∧ Below wx.heap.size wx w') := fun wx hb => l7Has_any x p i wx (hG.below hb) hL hcap
 have HN : Hid (hasB x.y p i = true → ∀ wx, Below w.heap.size w wx → Calls Tryz.prog 53 #[x.v, .int .i64 p, .int .i64 i] wx fun e w' => e = .returned (.int .i64 (sndS x.y p i)) ∧ Below wx.heap.size wx w') := fun h wx hb => by
   have e : sndS x.y p i = sndN x.y p.toNat i.toNat := if_pos h
   obtain ⟨ho, a, b, rfl, rfl, ha, hb'⟩ := hasB_parts h
   rw [e]
   exact l7Sender_any x a b wx (hG.below hb) hcap ho ha hb'
 have HZ : Hid (hasB x.y p i = false → sndS x.y p i = -1) := fun h => if_neg (by rw [h]; decide)
 generalize sndS x.y p i = S at *
 generalize hasB x.y p i = t at *
 have BW : Hid (Below w.heap.size w (w.alloc (.cells #[.slice x.pa x.pn x.pc, .slice x.sa x.sn x.sc, .slice x.wa x.wn x.wc, .slice x.ha x.hn x.hc] 29))) := below_alloc _ _
 have NB : Hid (BoxC (w.alloc (.cells #[.slice x.pa x.pn x.pc, .slice x.sa x.sn x.sc, .slice x.wa x.wn x.wc, .slice x.ha x.hn x.hc] 29)) w.heap.size (.slice x.pa x.pn x.pc) (.slice x.sa x.sn x.sc) (.slice x.wa x.wn x.wc) (.slice x.ha x.hn x.hc)) := BoxC.new w _ _ _ _ _
 clear hG hL hcap
 go_enter Tryz.func19, Tryz.ntmps19
 go_wp2_with fail
 generalize w.alloc (.cells #[.slice x.pa x.pn x.pc, .slice x.sa x.sn x.sc, .slice x.wa x.wn x.wc, .slice x.ha x.hn x.hc] 29) = W2 at *
 refine (HS.out W2 BW.out).mono ?_
 rintro e w1 ⟨rfl, q1⟩
 have B1 : Hid (Below w.heap.size w w1 ∧ BoxC w1 w.heap.size (.slice x.pa x.pn x.pc) (.slice x.sa x.sn x.sc) (.slice x.wa x.wn x.wc) (.slice x.ha x.hn x.hc)) := ⟨BW.out.trans (q1.mono BW.out.size), NB.out.below q1⟩
 clear q1 BW NB HS
 cases t with
 | false =>
   have hv := HZ.out rfl
   clear HZ HN
   go_wp2
   go_ret
   exact ⟨ret_int hv.symm, B1.out.1⟩
 | true =>
   obtain ⟨b0, b1, b2, b3⟩ := B1.out.2
   go_wp2_with fail
   refine (HN.out (by simp) w1 B1.out.1).mono ?_
   rintro e w2 ⟨rfl, q2⟩
   have B2 : Hid (Below w.heap.size w w2) := B1.out.1.trans (q2.mono B1.out.1.size)
   clear q2
   go_wp2
   go_ret
   exact ⟨rfl, B2.out⟩
end Go.Proofs.YtdigofhceahpdaaGreatDoor
