/- A drawn number is read from its bytes as it was; bytes that are read are those of the number. -/
import Derived.Test.YtpgmgdoejmhamaaNbB
import Derived.Test.YtpgmgdoejmhamaaGnLaw
import Derived.Test.YtpgmgdoejmhamaaOrG
import Derived.Deep.CutRange
namespace Go.Proofs.Ytpgmgdoejmhamaa
open Go.ChangeShapes Go.WideShapes Go.ChangeAt Go.RowKit Go.Deep

theorem run_enterL {f : FuncId} {fn : Func} {c : Code} (hf : Try.prog.funcs[f]? = some fn) (hname : (fn.name == "runtime.NumGoroutine") = false) (hb : fn.body = some c) (args : Array Value) (w : World) :
    (callFunc f args).run Try.prog w = .ok (.enter f args) w := by
  have h1 : fn.name ≠ "runtime.NumGoroutine" := by simpa using hname
  simp [callFunc, hf, h1, hb]
theorem neq_same (s : ByteArray) : (s.toList != s.toList) = false := by simp
theorem eql_same (s : ByteArray) : (s.toList == s.toList) = true := by simp

set_option maxRecDepth 100000 in
set_option maxHeartbeats 4000000 in
theorem numBytesLaw_small (a0 : Option Addr) (len cap : Nat) (w : World) (hl : len ≤ 1048576) (hB : BytesAt w w.heap.size a0 len) :
    Calls Try.prog 3 #[.slice a0 len cap] w fun e w' => e = .returned (.bool true) ∧ Below w.heap.size w w' := by
  have HB : Hid (BytesAt w w.heap.size a0 len) := hB
  clear hB
  go_enter Try.func3, Try.ntmps3
  go_wp2_with fail
  refine (big_any a0 len cap w).mono ?_
  rintro e w1 ⟨rfl, e1⟩
  obtain rfl := e1.symm
  rw [decide_eq_false (show ¬ (1048576 : Int) < (len : Int) by omega)]
  go_wp2_with fail
  refine (DrawPutNum_any w.heap.size len cap a0 w HB.out (Nat.le_refl _) hl).mono ?_
  rintro e w2 ⟨x, rfl, b2⟩
  have B2 : Hid (Below w.heap.size w w2) := b2
  clear b2
  go_wp2_with fail
  refine (implPutNum_any x w2).mono ?_
  rintro e w3 ⟨u3, rfl, o3, b3⟩
  have hX : (puL x).length ≤ 5 := puL_len x
  have HPX : Hid (∀ r, puB x = true → gnO (puL x ++ r) 0 = some (x, ((puL x).length : Int))) := fun r h => gn_put h r
  have HPN : Hid (puB x = true ∨ puL x = []) := by
    cases h : puB x with
    | true => exact .inl rfl
    | false => exact .inr (puL_nil x h)
  have HPB : Hid (By (puL x)) := puL_by x
  have HSP : Hid (∀ wx, Calls Try.prog 9 #[.int .i64 x] wx fun e w' => ∃ v, e = .returned v ∧ OwnB w' wx.heap.size v (puL x) ∧ Below wx.heap.size wx w') := fun wx => specPutNum_any x wx
  generalize puL x = X at *
  obtain ⟨ab, cb, rfl, sb⟩ := o3.form
  have V3 : Hid (SlB w3 ab X ∧ Below w.heap.size w w3) := ⟨sb, B2.out.trans (b3.mono B2.out.size)⟩
  clear o3 sb b3 B2
  have hXi : (X.length : Int) ≤ 5 := by omega
  go_upto_region 5 with fail
  go_cut [27] from 22 to 26 (fun t wx => t = .bool false ∧ Hid (SlB wx ab X ∧ Below w.heap.size w wx))
  case first =>
    have q0 : Below w3.heap.size w3 w3.drew := (Below.refl w3.heap.size w3).drew
    refine wp_region_G (fun w' => SlB w' ab X) (fun _ => false) (by kernel_rfl) ?_
    have hHeld : (fun w' : World => SlB w' ab X) w3.drew := V3.out.1.below q0
    refine wpG_take 0 rfl hHeld ?_
    apply Exists.intro
    refine ⟨fun wq hSw => ?_, ?_⟩
    · (try dsimp only at hSw)
      go_simp
      try with_reducible rfl
    (try simp only [Act.put, List.setIfInBounds_toArray, List.set_cons_zero, List.set_cons_succ])
    refine wpG_take 1 rfl hHeld ?_
    apply Exists.intro
    refine ⟨fun wq hSw => ?_, ?_⟩
    · have cv := conv_bytes hSw cb
      go_simp
      try with_reducible rfl
    (try simp only [Act.put, List.setIfInBounds_toArray, List.set_cons_zero, List.set_cons_succ])
    refine wpG_take 2 rfl hHeld ?_
    apply Exists.intro
    refine ⟨fun wq hSw => ?_, ?_⟩
    · (try dsimp only at hSw)
      go_simp
      try with_reducible rfl
    (try simp only [Act.put, List.setIfInBounds_toArray, List.set_cons_zero, List.set_cons_succ])
    refine wpG_one 3 rfl (by kernel_rfl) (fun K hK => ?_)
    refine stepR_callD rfl 9 _ _ rfl #[.int .i64 x] (by simp [Act.eval]) (run_enterL Try.func9 (by kernel_rfl) rfl) (HSP.out w3.drew) ?_
    rintro e w5 ⟨v5, rfl, o5, b5⟩
    obtain ⟨a5, c5, rfl, s5⟩ := o5.form
    have q5 : Below w3.heap.size w3 w5 := q0.trans (b5.mono q0.size)
    have cv5 := conv_bytes s5 c5
    refine ⟨_, rfl, ?_⟩
    refine hK.out _ _ (fun _ => V3.out.1.below q5) ?_
    clear hK K o5 s5 hHeld
    (try simp only [Act.put, List.setIfInBounds_toArray, List.set_cons_zero, List.set_cons_succ])
    refine wpG_one 4 rfl (by kernel_rfl) (fun K hK => ?_)
    go_simp
    refine hK.out _ _ (fun _ => V3.out.1.below q5) ?_
    clear hK K
    (try simp only [Act.put, List.setIfInBounds_toArray, List.set_cons_zero, List.set_cons_succ])
    refine wpG_one 5 rfl (by kernel_rfl) (fun K hK => ?_)
    have hns := neq_same (strOfNums X)
    go_simp
    refine hK.out _ _ (fun _ => V3.out.1.below q5) ?_
    clear hK K
    (try simp only [Act.put, List.setIfInBounds_toArray, List.set_cons_zero, List.set_cons_succ])
    refine wpG_done (by kernel_rfl) ?_ _
    go_wp2_with fail
    go_meet
    case rel => exact ⟨by with_reducible rfl, V3.out.1.below q5, V3.out.2.trans (q5.mono V3.out.2.size)⟩
  obtain ⟨rfl, V5⟩ := hcut
  clear V3
  rename World => w5
  have OE : Hid (OwnB (w5.alloc (.cells #[] 5)) w5.heap.size (.slice (some ⟨w5.heap.size, 0, none⟩) 0 0) []) := ownB_empty w5
  have VE : Hid (SlB (w5.alloc (.cells #[] 5)) ab X ∧ Below w.heap.size w (w5.alloc (.cells #[] 5)) ∧ w5.heap.size ≤ (w5.alloc (.cells #[] 5)).heap.size ∧ Below w5.heap.size w5 (w5.alloc (.cells #[] 5))) := ⟨V5.out.1.below ((Below.refl _ _).alloc (Nat.le_refl _) _), V5.out.2.alloc V5.out.2.size _, by simp, (Below.refl _ _).alloc (Nat.le_refl _) _⟩
  go_wp2_with (at_builtin; refine wpList_append_bytes (w5.alloc (.cells #[] 5)) rfl _ _ rfl w5.heap.size cb (.slice (some ⟨w5.heap.size, 0, none⟩) 0 0) ab [] X rfl rfl OE.out VE.out.1 (by simp only [List.length_nil]; omega) VE.out.2.2.1 ?_; intro v6 w6 o6 g6 _; have B6 : Hid (OwnB w6 w5.heap.size v6 X ∧ SlB w6 ab X ∧ Below w.heap.size w w6 ∧ Below w5.heap.size w5 w6) := (by
      have hb : Below w5.heap.size (w5.alloc (.cells #[] 5)) w6 := Below.grown (Below.refl _ _) g6 VE.out.2.2.1 (fun k hk => (OE.out.lt k hk).1)
      have hb5 := VE.out.2.2.2.trans hb
      exact ⟨o6, V5.out.1.below hb5, V5.out.2.trans (hb5.mono V5.out.2.size), hb5⟩); clear o6 g6)
  clear OE VE
  refine (at_one w.heap.size a0 len cap w6 (HB.out.kept (fun k hk => B6.out.2.2.1.block k hk)) hl).mono ?_
  rintro e w7 ⟨z, rfl, ⟨z0, z1⟩, e7⟩
  obtain rfl := e7
  have hzw : IntKind.u8.wrap z = z := by rw [IntKind.wrap_u8]; omega
  have hs6 := B6.out.2.2.2.size
  have HY : Hid (By (X ++ [z]) ∧ (X ++ [z]).length ≤ 1048576) := ⟨By.app HPB.out (by_one ⟨z0, z1⟩), by rw [List.length_append]; simp only [List.length_cons, List.length_nil]; omega⟩
  go_wp2_with (at_builtin; refine append_byte w7 rfl _ _ rfl w5.heap.size v6 X rfl B6.out.1 z rfl (by omega) hs6 ?_; intro v8 w8 o8 b8; obtain ⟨a8, c8, rfl, s8⟩ := o8.form; have HC8 : Hid ((X ++ [z]).length ≤ c8) := o8.cap; have S8 : Hid (SlB w8 a8 (X ++ [z])) := s8; have B8 : Hid (SlB w8 ab X ∧ Below w.heap.size w w8) := ⟨V5.out.1.below (B6.out.2.2.2.trans b8), V5.out.2.trans ((B6.out.2.2.2.trans b8).mono V5.out.2.size)⟩; obtain ⟨ly, hly⟩ : ∃ n, n = (X ++ [z]).length := ⟨_, rfl⟩; have HLY : Hid (ly = (X ++ [z]).length) := hly; rw [← hly]; clear o8 b8 s8 hly)
  clear B6 V5 hs6
  have HGN := implGetNum_any a8 c8 (X ++ [z]) 0 w8 HY.out.2 HC8.out S8.out HY.out.1
  rw [← HLY.out] at HGN
  refine HGN.mono ?_
  clear HGN
  rintro e w9 ⟨rfl, b9⟩
  have B9 : Hid (SlB w9 ab X ∧ Below w.heap.size w w9) := ⟨B8.out.1.below b9, B8.out.2.trans (b9.mono B8.out.2.size)⟩
  clear b9 B8 S8 HC8
  have HGV : Hid (X = [] ∨ (gnV (gnO (X ++ [z]) 0) = .tuple #[.int .i64 x, .int .i64 (X.length : Int), .bool true] ∧ 0 < X.length)) := by
    rcases HPN.out with h | h
    · by_cases hx : X = []
      · exact .inl hx
      · refine .inr ⟨by rw [HPX.out [z] h]; rfl, List.length_pos_iff.2 hx⟩
    · exact .inl h
  obtain ⟨gx, ge, gt, hgv⟩ := gnV_val (gnO (X ++ [z]) 0)
  have HGX : Hid (X.length = 0 ∨ (gx = x ∧ ge = (X.length : Int) ∧ gt = true ∧ 0 < X.length)) := by
    rcases HGV.out with h | ⟨h, h2⟩
    · exact .inl (by rw [h]; rfl)
    · rw [hgv] at h
      simp only [Value.tuple.injEq, Array.mk.injEq, List.cons.injEq, Value.int.injEq, Value.bool.injEq, true_and, and_true] at h
      exact .inr ⟨h.1, h.2.1, h.2.2, h2⟩
  rw [hgv]
  clear hgv HGV HY HPX HPN HPB HLY
  generalize hXn : X.length = m at *
  go_upto_region 8 with fail
  go_cut [58] from 41 to 57 (fun t wx => t = .bool false ∧ wx = w9)
  case first =>
    rcases HGX.out with h | ⟨h1, h2, h3, h4⟩
    · subst h
      go_wp2
      go_meet
      case rel => exact ⟨by with_reducible rfl, rfl⟩
    · subst h1
      subst h2
      subst h3
      have hm0 : (0 : Int) < (m : Int) := by omega
      have t1 : (gx != gx) = false := by simp
      have t2 : ((m : Int) != (m : Int)) = false := by simp
      go_wp2
      go_meet
      case rel => exact ⟨by with_reducible rfl, rfl⟩
  obtain ⟨rfl, hw9⟩ := hcut
  obtain rfl := hw9.symm
  clear HGX
  go_wp2_with fail
  refine (DrawGetNum_any w.heap.size len cap a0 w9 (HB.out.kept (fun k hk => B9.out.2.block k hk)) B9.out.2.size hl).mono ?_
  rintro e wA ⟨ar, cr, ys, k, rfl, oA, yA, lA, ⟨k0, k1⟩, bA⟩
  have RA : Hid (SlB wA ar ys ∧ ys.length ≤ cr ∧ By ys ∧ ys.length ≤ 20 ∧ Below w.heap.size w wA) := ⟨oA.sl2, oA.cap, yA, lA, B9.out.2.trans (bA.mono B9.out.2.size)⟩
  clear oA bA yA lA B9
  go_wp2_with fail
  refine (implGetNum_any ar cr ys k wA (by have := RA.out.2.2.2.1; omega) RA.out.2.1 RA.out.1 RA.out.2.2.1).mono ?_
  rintro e wB ⟨rfl, bB⟩
  have RB : Hid (SlB wB ar ys ∧ ys.length ≤ cr ∧ By ys ∧ ys.length ≤ 20 ∧ Below w.heap.size w wB) := ⟨RA.out.1.below bB, RA.out.2.1, RA.out.2.2.1, RA.out.2.2.2.1, RA.out.2.2.2.2.trans (bB.mono RA.out.2.2.2.2.size)⟩
  clear bB RA
  cases hg : gnO ys k with
  | none =>
    have HG : Hid (gnO ys k = none) := hg
    clear hg
    rw [show gnV none = .tuple #[.int .i64 0, .int .i64 0, .bool false] from rfl]
    go_wp2_with fail
    refine (specGetNum_any ar cr ys k wB (by have := RB.out.2.2.2.1; omega) RB.out.1 RB.out.2.2.1).mono ?_
    rintro e wC ⟨rfl, bC⟩
    have RC : Hid (Below w.heap.size w wC) := RB.out.2.2.2.2.trans (bC.mono RB.out.2.2.2.2.size)
    clear bC RB
    rw [HG.out, show gnV none = .tuple #[.int .i64 0, .int .i64 0, .bool false] from rfl]
    go_upto_region 15 with fail
    have q0 : Below wC.heap.size wC wC.drew := (Below.refl wC.heap.size wC).drew
    refine wp_region_G (fun _ => True) (fun _ => false) (by kernel_rfl) ?_
    have hHeld : (fun _ : World => True) wC.drew := trivial
    refine wpG_take 0 rfl hHeld ?_
    apply Exists.intro
    refine ⟨fun wq hSw => ?_, ?_⟩
    · (try dsimp only at hSw)
      go_simp
      try with_reducible rfl
    (try simp only [Act.put, List.setIfInBounds_toArray, List.set_cons_zero, List.set_cons_succ])
    refine wpG_take 1 rfl hHeld ?_
    apply Exists.intro
    refine ⟨fun wq hSw => ?_, ?_⟩
    · (try dsimp only at hSw)
      go_simp
      try with_reducible rfl
    (try simp only [Act.put, List.setIfInBounds_toArray, List.set_cons_zero, List.set_cons_succ])
    refine wpG_take 2 rfl hHeld ?_
    apply Exists.intro
    refine ⟨fun wq hSw => ?_, ?_⟩
    · (try dsimp only at hSw)
      go_simp
      try with_reducible rfl
    (try simp only [Act.put, List.setIfInBounds_toArray, List.set_cons_zero, List.set_cons_succ])
    refine wpG_take 3 rfl hHeld ?_
    apply Exists.intro
    refine ⟨fun wq hSw => ?_, ?_⟩
    · (try dsimp only at hSw)
      go_simp
      try with_reducible rfl
    (try simp only [Act.put, List.setIfInBounds_toArray, List.set_cons_zero, List.set_cons_succ])
    refine wpG_take 4 rfl hHeld ?_
    apply Exists.intro
    refine ⟨fun wq hSw => ?_, ?_⟩
    · (try dsimp only at hSw)
      go_simp
      try with_reducible rfl
    (try simp only [Act.put, List.setIfInBounds_toArray, List.set_cons_zero, List.set_cons_succ])
    refine wpG_take 5 rfl hHeld ?_
    apply Exists.intro
    refine ⟨fun wq hSw => ?_, ?_⟩
    · (try dsimp only at hSw)
      go_simp
      try with_reducible rfl
    (try simp only [Act.put, List.setIfInBounds_toArray, List.set_cons_zero, List.set_cons_succ])
    refine wpG_take 6 rfl hHeld ?_
    apply Exists.intro
    refine ⟨fun wq hSw => ?_, ?_⟩
    · (try dsimp only at hSw)
      go_simp
      try with_reducible rfl
    (try simp only [Act.put, List.setIfInBounds_toArray, List.set_cons_zero, List.set_cons_succ])
    refine wpG_take 7 rfl hHeld ?_
    apply Exists.intro
    refine ⟨fun wq hSw => ?_, ?_⟩
    · (try dsimp only at hSw)
      go_simp
      try with_reducible rfl
    (try simp only [Act.put, List.setIfInBounds_toArray, List.set_cons_zero, List.set_cons_succ])
    refine wpG_take 8 rfl hHeld ?_
    apply Exists.intro
    refine ⟨fun wq hSw => ?_, ?_⟩
    · (try dsimp only at hSw)
      go_simp
      try with_reducible rfl
    (try simp only [Act.put, List.setIfInBounds_toArray, List.set_cons_zero, List.set_cons_succ])
    refine wpG_take 9 rfl hHeld ?_
    apply Exists.intro
    refine ⟨fun wq hSw => ?_, ?_⟩
    · (try dsimp only at hSw)
      go_simp
      try with_reducible rfl
    (try simp only [Act.put, List.setIfInBounds_toArray, List.set_cons_zero, List.set_cons_succ])
    refine wpG_take 10 rfl hHeld ?_
    apply Exists.intro
    refine ⟨fun wq hSw => ?_, ?_⟩
    · (try dsimp only at hSw)
      go_simp
      try with_reducible rfl
    (try simp only [Act.put, List.setIfInBounds_toArray, List.set_cons_zero, List.set_cons_succ])
    refine wpG_skip 11 rfl ?_
    (try simp only [Act.put, List.setIfInBounds_toArray, List.set_cons_zero, List.set_cons_succ])
    refine wpG_skip 12 rfl ?_
    (try simp only [Act.put, List.setIfInBounds_toArray, List.set_cons_zero, List.set_cons_succ])
    refine wpG_skip 13 rfl ?_
    (try simp only [Act.put, List.setIfInBounds_toArray, List.set_cons_zero, List.set_cons_succ])
    refine wpG_skip 14 rfl ?_
    (try simp only [Act.put, List.setIfInBounds_toArray, List.set_cons_zero, List.set_cons_succ])
    refine wpG_skip 15 rfl ?_
    (try simp only [Act.put, List.setIfInBounds_toArray, List.set_cons_zero, List.set_cons_succ])
    refine wpG_skip 16 rfl ?_
    (try simp only [Act.put, List.setIfInBounds_toArray, List.set_cons_zero, List.set_cons_succ])
    refine wpG_skip 17 rfl ?_
    (try simp only [Act.put, List.setIfInBounds_toArray, List.set_cons_zero, List.set_cons_succ])
    refine wpG_skip 18 rfl ?_
    (try simp only [Act.put, List.setIfInBounds_toArray, List.set_cons_zero, List.set_cons_succ])
    refine wpG_skip 19 rfl ?_
    (try simp only [Act.put, List.setIfInBounds_toArray, List.set_cons_zero, List.set_cons_succ])
    refine wpG_skip 20 rfl ?_
    (try simp only [Act.put, List.setIfInBounds_toArray, List.set_cons_zero, List.set_cons_succ])
    refine wpG_skip 21 rfl ?_
    (try simp only [Act.put, List.setIfInBounds_toArray, List.set_cons_zero, List.set_cons_succ])
    refine wpG_skip 22 rfl ?_
    (try simp only [Act.put, List.setIfInBounds_toArray, List.set_cons_zero, List.set_cons_succ])
    refine wpG_take 23 rfl hHeld ?_
    apply Exists.intro
    refine ⟨fun wq hSw => ?_, ?_⟩
    · (try dsimp only at hSw)
      go_simp
      try with_reducible rfl
    (try simp only [Act.put, List.setIfInBounds_toArray, List.set_cons_zero, List.set_cons_succ])
    refine wpG_take 24 rfl hHeld ?_
    apply Exists.intro
    refine ⟨fun wq hSw => ?_, ?_⟩
    · (try dsimp only at hSw)
      go_simp
      try with_reducible rfl
    (try simp only [Act.put, List.setIfInBounds_toArray, List.set_cons_zero, List.set_cons_succ])
    refine wpG_done (by kernel_rfl) ?_ _
    go_wp2
    go_ret
    exact ⟨rfl, RC.out.trans (q0.mono RC.out.size)⟩
  | some xe =>
    obtain ⟨gz, gq⟩ := xe
    have HG : Hid (gnO ys k = some (gz, gq)) := hg
    obtain ⟨ka, kn, hka, hke, hn1, hn5, hnl, hpu⟩ := gn_some RB.out.2.2.1 hg
    obtain ⟨km, hkm⟩ : ∃ km, ka + kn = km := ⟨_, rfl⟩
    rw [hkm] at hnl hke
    obtain ⟨asl, hsl, hss⟩ := slice_bytes (cap := cr) hkm RB.out.1 hnl hn1 RB.out.2.1
    have HKA : Hid (k = (ka : Int) ∧ gq = (km : Int)) := ⟨hka, hke⟩
    clear hg hka hke
    rw [show gnV (some (gz, gq)) = .tuple #[.int .i64 gz, .int .i64 gq, .bool true] from rfl]
    go_wp2_with fail
    refine (specGetNum_any ar cr ys k wB (by have := RB.out.2.2.2.1; omega) RB.out.1 RB.out.2.2.1).mono ?_
    rintro e wC ⟨rfl, bC⟩
    have RC : Hid (SlB wC ar ys ∧ Below w.heap.size w wC) := ⟨RB.out.1.below bC, RB.out.2.2.2.2.trans (bC.mono RB.out.2.2.2.2.size)⟩
    clear bC RB
    rw [HG.out, show gnV (some (gz, gq)) = .tuple #[.int .i64 gz, .int .i64 gq, .bool true] from rfl]
    have tq : (gq != gq) = false := by simp
    go_upto_region 15 with fail
    obtain ⟨hka, hke⟩ := HKA.out
    subst hka
    subst hke
    clear HKA
    have HPU : Hid (puL gz = (ys.drop ka).take kn) := hpu
    have HSS : Hid (∀ wx, SlB wx ar ys → SlB wx asl ((ys.drop ka).take kn)) := hss
    have hkl : ((ys.drop ka).take kn).length = kn := by rw [List.length_take, List.length_drop]; omega
    have HKL : Hid (((ys.drop ka).take kn).length = kn) := hkl
    clear hpu hss hkl tq
    have q0 : Below wC.heap.size wC wC.drew := (Below.refl wC.heap.size wC).drew
    refine wp_region_G (fun w' => SlB w' ar ys) (fun _ => false) (by kernel_rfl) ?_
    have hHeld : (fun w' : World => SlB w' ar ys) wC.drew := RC.out.1.below q0
    refine wpG_take 0 rfl hHeld ?_
    apply Exists.intro
    refine ⟨fun wq hSw => ?_, ?_⟩
    · (try dsimp only at hSw)
      go_simp
      try with_reducible rfl
    (try simp only [Act.put, List.setIfInBounds_toArray, List.set_cons_zero, List.set_cons_succ])
    refine wpG_take 1 rfl hHeld ?_
    apply Exists.intro
    refine ⟨fun wq hSw => ?_, ?_⟩
    · (try dsimp only at hSw)
      go_simp
      try with_reducible rfl
    (try simp only [Act.put, List.setIfInBounds_toArray, List.set_cons_zero, List.set_cons_succ])
    refine wpG_take 2 rfl hHeld ?_
    apply Exists.intro
    refine ⟨fun wq hSw => ?_, ?_⟩
    · (try dsimp only at hSw)
      go_simp
      try with_reducible rfl
    (try simp only [Act.put, List.setIfInBounds_toArray, List.set_cons_zero, List.set_cons_succ])
    refine wpG_skip 3 rfl ?_
    (try simp only [Act.put, List.setIfInBounds_toArray, List.set_cons_zero, List.set_cons_succ])
    refine wpG_skip 4 rfl ?_
    (try simp only [Act.put, List.setIfInBounds_toArray, List.set_cons_zero, List.set_cons_succ])
    refine wpG_take 5 rfl hHeld ?_
    apply Exists.intro
    refine ⟨fun wq hSw => ?_, ?_⟩
    · (try dsimp only at hSw)
      go_simp
      try with_reducible rfl
    (try simp only [Act.put, List.setIfInBounds_toArray, List.set_cons_zero, List.set_cons_succ])
    refine wpG_take 6 rfl hHeld ?_
    apply Exists.intro
    refine ⟨fun wq hSw => ?_, ?_⟩
    · (try dsimp only at hSw)
      go_simp
      try with_reducible rfl
    (try simp only [Act.put, List.setIfInBounds_toArray, List.set_cons_zero, List.set_cons_succ])
    refine wpG_skip 7 rfl ?_
    (try simp only [Act.put, List.setIfInBounds_toArray, List.set_cons_zero, List.set_cons_succ])
    refine wpG_skip 8 rfl ?_
    (try simp only [Act.put, List.setIfInBounds_toArray, List.set_cons_zero, List.set_cons_succ])
    refine wpG_take 9 rfl hHeld ?_
    apply Exists.intro
    refine ⟨fun wq hSw => ?_, ?_⟩
    · (try dsimp only at hSw)
      go_simp
      try with_reducible rfl
    (try simp only [Act.put, List.setIfInBounds_toArray, List.set_cons_zero, List.set_cons_succ])
    refine wpG_take 10 rfl hHeld ?_
    apply Exists.intro
    refine ⟨fun wq hSw => ?_, ?_⟩
    · (try dsimp only at hSw)
      go_simp
      try with_reducible rfl
    (try simp only [Act.put, List.setIfInBounds_toArray, List.set_cons_zero, List.set_cons_succ])
    refine wpG_take 11 rfl hHeld ?_
    apply Exists.intro
    refine ⟨fun wq hSw => ?_, ?_⟩
    · (try dsimp only at hSw)
      go_simp
      try with_reducible rfl
    (try simp only [Act.put, List.setIfInBounds_toArray, List.set_cons_zero, List.set_cons_succ])
    refine wpG_take 12 rfl hHeld ?_
    apply Exists.intro
    refine ⟨fun wq hSw => ?_, ?_⟩
    · (try dsimp only at hSw)
      go_simp
      try with_reducible rfl
    (try simp only [Act.put, List.setIfInBounds_toArray, List.set_cons_zero, List.set_cons_succ])
    refine wpG_take 13 rfl hHeld ?_
    apply Exists.intro
    refine ⟨fun wq hSw => ?_, ?_⟩
    · (try dsimp only at hSw)
      go_simp
      try with_reducible rfl
    (try simp only [Act.put, List.setIfInBounds_toArray, List.set_cons_zero, List.set_cons_succ])
    refine wpG_take 16 rfl hHeld ?_
    apply Exists.intro
    refine ⟨fun wq hSw => ?_, ?_⟩
    · (try dsimp only at hSw)
      go_simp
      try with_reducible rfl
    (try simp only [Act.put, List.setIfInBounds_toArray, List.set_cons_zero, List.set_cons_succ])
    refine wpG_take 17 rfl hHeld ?_
    apply Exists.intro
    refine ⟨fun wq hSw => ?_, ?_⟩
    · (try dsimp only at hSw)
      go_simp
      try with_reducible rfl
    (try simp only [Act.put, List.setIfInBounds_toArray, List.set_cons_zero, List.set_cons_succ])
    refine wpG_take 18 rfl hHeld ?_
    apply Exists.intro
    refine ⟨fun wq hSw => ?_, ?_⟩
    · (try dsimp only at hSw)
      go_simp
      try with_reducible rfl
    (try simp only [Act.put, List.setIfInBounds_toArray, List.set_cons_zero, List.set_cons_succ])
    refine wpG_take 19 rfl hHeld ?_
    apply Exists.intro
    refine ⟨fun wq hSw => ?_, ?_⟩
    · (try dsimp only at hSw)
      go_simp
      try with_reducible rfl
    (try simp only [Act.put, List.setIfInBounds_toArray, List.set_cons_zero, List.set_cons_succ])
    refine wpG_take 20 rfl hHeld ?_
    apply Exists.intro
    refine ⟨fun wq hSw => ?_, ?_⟩
    · have cv := conv_bytes (HSS.out wq hSw) (cr - ka); rw [HKL.out] at cv
      go_simp
      try with_reducible rfl
    (try simp only [Act.put, List.setIfInBounds_toArray, List.set_cons_zero, List.set_cons_succ])
    refine wpG_one 14 rfl (by kernel_rfl) (fun K hK => ?_)
    refine stepR_callD rfl 8 _ _ rfl #[.int .i64 gz] (by simp [Act.eval]) (run_enterL Try.func8 (by kernel_rfl) rfl) (implPutNum_any gz wC.drew) ?_
    rintro e wD ⟨v5, rfl, o5, b5⟩
    rw [HPU.out] at o5
    obtain ⟨a5, c5, rfl, s5⟩ := o5.form
    have q5 : Below wC.heap.size wC wD := q0.trans (b5.mono q0.size)
    have cv5 := conv_bytes s5 c5
    rw [HKL.out] at cv5 ⊢
    refine ⟨_, rfl, ?_⟩
    refine hK.out _ _ (fun _ => RC.out.1.below q5) ?_
    clear hK K o5 s5 hHeld
    (try simp only [Act.put, List.setIfInBounds_toArray, List.set_cons_zero, List.set_cons_succ])
    refine wpG_one 15 rfl (by kernel_rfl) (fun K hK => ?_)
    go_simp
    refine hK.out _ _ (fun _ => RC.out.1.below q5) ?_
    clear hK K
    (try simp only [Act.put, List.setIfInBounds_toArray, List.set_cons_zero, List.set_cons_succ])
    refine wpG_one 21 rfl (by kernel_rfl) (fun K hK => ?_)
    have hns := eql_same (strOfNums ((ys.drop ka).take kn))
    go_simp
    refine hK.out _ _ (fun _ => RC.out.1.below q5) ?_
    clear hK K
    (try simp only [Act.put, List.setIfInBounds_toArray, List.set_cons_zero, List.set_cons_succ])
    have hHeld : (fun w' : World => SlB w' ar ys) wD := RC.out.1.below q5
    refine wpG_take 22 rfl hHeld ?_
    apply Exists.intro
    refine ⟨fun wq hSw => ?_, ?_⟩
    · (try dsimp only at hSw)
      go_simp
      try with_reducible rfl
    (try simp only [Act.put, List.setIfInBounds_toArray, List.set_cons_zero, List.set_cons_succ])
    refine wpG_take 23 rfl hHeld ?_
    apply Exists.intro
    refine ⟨fun wq hSw => ?_, ?_⟩
    · (try dsimp only at hSw)
      go_simp
      try with_reducible rfl
    (try simp only [Act.put, List.setIfInBounds_toArray, List.set_cons_zero, List.set_cons_succ])
    refine wpG_take 24 rfl hHeld ?_
    apply Exists.intro
    refine ⟨fun wq hSw => ?_, ?_⟩
    · (try dsimp only at hSw)
      go_simp
      try with_reducible rfl
    (try simp only [Act.put, List.setIfInBounds_toArray, List.set_cons_zero, List.set_cons_succ])
    refine wpG_done (by kernel_rfl) ?_ _
    go_wp2
    go_ret
    exact ⟨rfl, RC.out.2.trans (q5.mono RC.out.2.size)⟩

set_option maxHeartbeats 1000000 in
theorem numBytesLaw_great (a0 : Option Addr) (len cap : Nat) (w : World) (hlen : 1048576 < len) :
    Calls Try.prog 3 #[.slice a0 len cap] w fun e w' => e = .returned (.bool true) ∧ Below w.heap.size w w' := by
  go_enter Try.func3, Try.ntmps3
  go_wp2_with fail
  refine (big_any a0 len cap w).mono ?_
  rintro e w1 ⟨rfl, e1⟩
  obtain rfl := e1.symm
  rw [decide_eq_true (show (1048576 : Int) < (len : Int) by omega)]
  go_wp2
  go_ret
  exact ⟨rfl, Below.refl _ _⟩

end Go.Proofs.Ytpgmgdoejmhamaa
