/- The walk of the law on a drawn new system: FnNew. -/
import Derived.Test.YtdmpcnmbnfdfmaaGreatDoorFc0
import Derived.Test.YtdmpcnmbnfdfmaaGreatDoorFc38
import Derived.Test.YtdmpcnmbnfdfmaaGreatDoorFc47
import Derived.Test.YtdmpcnmbnfdfmaaGreatDoorFc48
import Derived.Deep.Cut
namespace Go.Proofs.YtdmpcnmbnfdfmaaGreatDoor
set_option maxRecDepth 100000
set_option maxHeartbeats 4000000
open Go.RowKit Go.Deep
structure NwK (w : World) (X n : Nat) (pa : Option Addr) (pc : Nat) (sa : Option Addr) (sc : Nat) (wa : Option Addr) (wc : Nat) (ha : Option Addr) (hc : Nat) (L : Nat → Nat) (H : Nat → Nat → I5) : Prop where
 g : ∃ A C us, SysG w (nwX pa n pc A L C H (.slice sa n sc) (.slice wa (n * n) wc) (.slice ha n hc) us)
 bx : BoxC w X (.slice pa n pc) (.slice sa n sc) (.slice wa (n * n) wc) (.slice ha n hc)
theorem NwK.below {w w' : World} {X n : Nat} {pa : Option Addr} {pc : Nat} {sa : Option Addr} {sc : Nat} {wa : Option Addr} {wc : Nat} {ha : Option Addr} {hc : Nat} {L : Nat → Nat} {H : Nat → Nat → I5} (h : NwK w X n pa pc sa sc wa wc ha hc L H) (hb : Below w.heap.size w w') : NwK w' X n pa pc sa sc wa wc ha hc L H := by
 obtain ⟨⟨A, C, us, g⟩, bx⟩ := h
 exact ⟨⟨A, C, us, g.below hb⟩, bx.below hb⟩
theorem NwK.hist {w : World} {X n : Nat} {pa : Option Addr} {pc : Nat} {sa : Option Addr} {sc : Nat} {wa : Option Addr} {wc : Nat} {ha : Option Addr} {hc : Nat} {L : Nat → Nat} {H : Nat → Nat → I5} (h : NwK w X n pa pc sa sc wa wc ha hc L H) {i : Nat} (hi : i < n) : ∃ b off, ha = some ⟨b, off, none⟩ ∧ b < w.heap.size ∧ w.cell? ⟨b, off + i, none⟩ = some (.slice none 0 0) := by
 obtain ⟨⟨A, C, us, g⟩, -⟩ := h
 obtain ⟨b, off, e, hb, hc⟩ : ∃ b off, ha = some ⟨b, off, none⟩ ∧ b < w.heap.size ∧ ∀ i, i < n → w.cell? ⟨b, off + i, none⟩ = some (.slice none 0 0) := g.h.resolve_left (by show ¬ n = 0; omega)
 exact ⟨b, off, e, hb, hc i hi⟩
theorem NwK.ways {w : World} {X n : Nat} {pa : Option Addr} {pc : Nat} {sa : Option Addr} {sc : Nat} {wa : Option Addr} {wc : Nat} {ha : Option Addr} {hc : Nat} {L : Nat → Nat} {H : Nat → Nat → I5} (h : NwK w X n pa pc sa sc wa wc ha hc L H) : RowS w wa (n * n) fun _ => .slice none 0 0 := by
 obtain ⟨⟨A, C, us, g⟩, -⟩ := h
 exact g.w
theorem NwK.state {w : World} {X n : Nat} {pa : Option Addr} {pc : Nat} {sa : Option Addr} {sc : Nat} {wa : Option Addr} {wc : Nat} {ha : Option Addr} {hc : Nat} {L : Nat → Nat} {H : Nat → Nat → I5} (h : NwK w X n pa pc sa sc wa wc ha hc L H) {i : Nat} (hi : i < n) : ∃ b off ra rc oa oc, sa = some ⟨b, off, none⟩ ∧ b < w.heap.size ∧ (w.cell? ⟨b, off + i * 4, none⟩ = some (.int .i64 0) ∧ w.cell? ⟨b, off + i * 4 + 1, none⟩ = some (.slice ra 4 rc) ∧ w.cell? ⟨b, off + i * 4 + 2, none⟩ = some (.slice oa 0 oc) ∧ w.cell? ⟨b, off + i * 4 + 3, none⟩ = some (.int .i64 0)) ∧ Sl w ra [0, 0, 0, 0] ∧ Sl w oa [] := by
 obtain ⟨⟨A, C, us, g⟩, -⟩ := h
 obtain ⟨b, off, e, hb, hc⟩ := g.s.1.resolve_left (by show ¬ n = 0; omega)
 have h2 := g.s.2 i hi
 exact ⟨b, off, _, _, _, _, e, hb, hc i hi, h2.1, h2.2⟩
theorem stepR_callW {ops : Array Oper} {o : Oper} {a : Act} {w : World} {K : Act → World → Prop} {Q : Exit → Act → World → Prop} {E : Prop} (hw : Region.wanted o (yielded ops a.tmps) = true) (f : FuncId) (args : Array Operand) (ts : Array TypeId)
  (ho : o.op = .call { callee := .value (.func f), args := args, argTypes := ts }) (vals : Array Value) (hv : args.map a.eval = vals) (hen : ∀ vs wx, (callFunc f vs).run Tryz.prog wx = .ok (.enter f vs) wx) {post : Ending → World → Prop} (hc : Calls Tryz.prog f vals w post)
  (h : ∀ e w', post e w' → ∃ v, e = .returned v ∧ K (a.put o.dst v) w') :
  if Region.wanted o (yielded ops a.tmps) = true then Oper.wp Tryz.prog o a w K Q else E := by
 rw [if_pos hw]
 have hr : (execOp a.eval o).run Tryz.prog w = .ok (.enter f vals) w := by
  unfold execOp
  simp [ho, resolve, invoke, hv, hen, Act.eval, Deferred.ofValue]
 unfold Oper.wp
 rw [hr, Oper.upon_enter]
 refine hc.mono fun e w' hp => ?_
 obtain ⟨v, rfl, hk⟩ := h e w' hp
 exact hk
theorem newDLaw_small (a0 : Option Addr) (len cap : Nat) (w : World) (hl : len ≤ 1048576) (hB : BytesAt w w.heap.size a0 len) (hV : w.cell? ⟨0, 0, none⟩ = some (.iface 144 (.agg #[.pointer (some ⟨1, 94, none⟩)]))) :
  Calls Tryz.prog 3 #[.slice a0 len cap] w fun e w' => e = .returned (.bool true) ∧ Below w.heap.size w w' := by
 have HB : Hid (BytesAt w w.heap.size a0 len) := hB
 have HV : Hid (∀ wx, Below w.heap.size w wx → wx.cell? ⟨0, 0, none⟩ = some (.iface 144 (.agg #[.pointer (some ⟨1, 94, none⟩)]))) := fun wx hb => (hb.cell (p := ⟨0, 0, none⟩) (World.block_lt_of_cell? w _ hV)).trans hV
 have hlt : ¬ (1048576 : Int) < (len : Int) := by omega
 clear hB hV
 go_enter Tryz.func3, Tryz.ntmps3
 go_wp2_with fail
 refine (big_any a0 len cap w).mono ?_
 rintro e w1 ⟨rfl, rfl⟩
 rw [decide_eq_false (show ¬ (1048576 : Int) < (len : Int) by omega)]
 go_wp2_with fail
 refine (DrawSysNew_any w1.heap.size len cap a0 w1 HB.out (Nat.le_refl _) hl).mono ?_
 rintro e w2 ⟨pa, n, pc, A, L, C, H, rfl, hn, h31, hr, hI, b2⟩
 have HR : Hid ((∀ i, i < n → L i ≤ 1048576) ∧ (RowS w2 pa n fun i => .slice (A i) (L i) (C i)) ∧ ∀ i, i < n → ∃ b, A i = some ⟨b, 0, none⟩ ∧ b < w2.heap.size ∧ InsAt w2 b 0 (L i) (H i)) := ⟨fun i hi => Nat.le_trans (h31 i hi) (by omega), hr, hI⟩
 have B2 : Hid (Below w1.heap.size w1 w2) := b2
 clear h31 hr hI b2 HB
 go_wp2_with fail
 refine (implSysNew_any pa n pc A L C H w2 (by omega) HR.out.1 HR.out.2.1 HR.out.2.2 (HV.out _ B2.out)).mono ?_
 rintro e w3 ⟨qa, qc, sa, sc, wa, wc, ha, hc, rfl, o3, b3⟩
 have K3 : Hid (NwK (w3.alloc (oQ4 qa (nwN n L H) qc sa (nwN n L H) sc wa (nwN n L H * nwN n L H) wc ha (nwN n L H) hc)) w3.heap.size (nwN n L H) qa qc sa sc wa wc ha hc L H) := by
  obtain ⟨A, C, us, g⟩ := o3.g
  exact ⟨⟨A, C, us, g.below (below_allocL _ _)⟩, BoxC.new _ _ _ _ _ _⟩
 have B3 : Hid (Below w2.heap.size w2 (w3.alloc (oQ4 qa (nwN n L H) qc sa (nwN n L H) sc wa (nwN n L H * nwN n L H) wc ha (nwN n L H) hc))) := b3.trans ((below_allocL _ _).mono b3.size)
 clear o3 b3
 go_wp2_with fail
 generalize w3.alloc (oQ4 qa (nwN n L H) qc sa (nwN n L H) sc wa (nwN n L H * nwN n L H) wc ha (nwN n L H) hc) = W3 at *
 generalize w3.heap.size = X at *
 clear w3
 have HR3 : Hid ((RowS W3 pa n fun i => .slice (A i) (L i) (C i)) ∧ ∀ i, i < n → Src W3 (A i) (fI (H i) (L i))) := ⟨HR.out.2.1.below B3.out, fun i hi => by
  obtain ⟨b, e, hlt, h⟩ := HR.out.2.2 i hi
  rw [e]
  exact srcI (Nat.lt_of_lt_of_le hlt B3.out.size) (h.below B3.out hlt)⟩
 refine (specSysNew_any pa n pc A L C H W3 (by omega) HR.out.1 HR3.out.1 HR3.out.2).mono ?_
 rintro e w4 ⟨qa', qc', sa', sc', wa', wc', ha', hc', rfl, -, b4⟩
 have K4 : Hid (NwK w4 X (nwN n L H) qa qc sa sc wa wc ha hc L H) := K3.out.below b4
 have B4 : Hid (Below w1.heap.size w1 w4) := B2.out.trans ((B3.out.trans (b4.mono B3.out.size)).mono B2.out.size)
 have HL : Hid (∀ i, i < n → L i ≤ 1048576) := HR.out.1
 clear b4 K3 B3 B2 HR HR3
 cases ht : snB n L H with
 | false =>
  have e0 : nwN n L H = 0 := by rw [nwN, ht, if_neg (by simp)]
  rw [e0] at K4 ⊢
  obtain ⟨k0, k1, k2, k3⟩ := (K4.out.below (below_allocL w4 (oQ4 qa' 0 qc' sa' 0 sc' wa' (0 * 0) wc' ha' 0 hc'))).bx
  go_upto_region 9 with fail
  have B5 : Hid (Below w1.heap.size w1 (w4.alloc (oQ4 qa' 0 qc' sa' 0 sc' wa' (0 * 0) wc' ha' 0 hc'))) := B4.out.trans ((below_allocL _ _).mono B4.out.size)
  generalize w4.alloc (oQ4 qa' 0 qc' sa' 0 sc' wa' (0 * 0) wc' ha' 0 hc') = W5 at *
  go_wp2
  exact bodyPost_ret (v := .bool true) (by simp [results, Tryz.results3, go_sem]) rfl ⟨rfl, B5.out⟩
 | true =>
  have e0 : nwN n L H = n := by rw [nwN, if_pos ht]
  rw [e0] at K4 ⊢
  have h4 : n ≤ 4 := by
   rw [snB, Bool.and_eq_true, decide_eq_true_eq] at ht
   exact ht.1
  have HO : Hid ((nwY n L H).okB = true) := by
   rw [snB, Bool.and_eq_true] at ht
   exact ht.2
  have hn4 : (n : Int) ≤ 4 := by omega
  clear ht e0
  obtain ⟨k0, k1, k2, k3⟩ := K4.out.bx
  go_wp2_with fail
  go_loopw [8] (fun i wr => ∃ j : Nat, j ≤ n ∧ i = .int .i64 j ∧ Hid (NwK wr X n qa qc sa sc wa wc ha hc L H ∧ Below w1.heap.size w1 wr)) (fun i _ => n - (intOf i).toNat)
  case atStart => exact ⟨0, Nat.zero_le _, rfl, K4.out.below (below_allocL _ _), B4.out.trans ((below_allocL _ _).mono B4.out.size)⟩
  case round =>
   obtain ⟨j, hj, rfl, HK⟩ := hrel
   obtain ⟨r0, r1, r2, r3⟩ := HK.out.1.bx
   have lX : X < wr.heap.size := World.block_lt_of_cell? wr _ r0
   by_cases hlt : j < n
   ·have hlt' : (j : Int) < (n : Int) := by omega
    have nlt : ¬ (n : Int) ≤ (j : Int) := by omega
    obtain ⟨hb, ho, eh, hbl, hh⟩ := HK.out.1.hist hlt
    obtain ⟨sb, so, ra, rc, oa, oc, es, hsl, ⟨s0, s1, s2, s3⟩, hr4, ho4⟩ := HK.out.1.state hlt
    rw [eh] at r3
    rw [es] at r1
    clear eh es
    go_upto_region 13 with fail
    have q0 : Below wr.heap.size wr wr.drew := (Below.refl wr.heap.size wr).drew
    refine wp_region_G (fun w' => w'.cell? ⟨X, 1, none⟩ = some (.slice (some ⟨sb, so, none⟩) n sc) ∧ w'.cell? ⟨X, 3, none⟩ = some (.slice (some ⟨hb, ho, none⟩) n hc) ∧ w'.cell? ⟨hb, ho + j, none⟩ = some (.slice none 0 0) ∧ w'.cell? ⟨sb, so + j * 4, none⟩ = some (.int .i64 0) ∧ w'.cell? ⟨sb, so + j * 4 + 1, none⟩ = some (.slice ra 4 rc) ∧ w'.cell? ⟨sb, so + j * 4 + 2, none⟩ = some (.slice oa 0 oc) ∧ w'.cell? ⟨sb, so + j * 4 + 3, none⟩ = some (.int .i64 0)) (fun _ => false) (by kernel_rfl) ?_
    have hHeld : (fun w' : World => w'.cell? ⟨X, 1, none⟩ = some (.slice (some ⟨sb, so, none⟩) n sc) ∧ w'.cell? ⟨X, 3, none⟩ = some (.slice (some ⟨hb, ho, none⟩) n hc) ∧ w'.cell? ⟨hb, ho + j, none⟩ = some (.slice none 0 0) ∧ w'.cell? ⟨sb, so + j * 4, none⟩ = some (.int .i64 0) ∧ w'.cell? ⟨sb, so + j * 4 + 1, none⟩ = some (.slice ra 4 rc) ∧ w'.cell? ⟨sb, so + j * 4 + 2, none⟩ = some (.slice oa 0 oc) ∧ w'.cell? ⟨sb, so + j * 4 + 3, none⟩ = some (.int .i64 0)) wr.drew := ⟨(q0.cell (p := ⟨X, 1, none⟩) lX).trans r1, (q0.cell (p := ⟨X, 3, none⟩) lX).trans r3, (q0.cell (p := ⟨hb, _, none⟩) hbl).trans hh, (q0.cell (p := ⟨sb, _, none⟩) hsl).trans s0, (q0.cell (p := ⟨sb, _, none⟩) hsl).trans s1, (q0.cell (p := ⟨sb, _, none⟩) hsl).trans s2, (q0.cell (p := ⟨sb, _, none⟩) hsl).trans s3⟩
    refine wpGT_of [0, 1, 2, 3, 4, 5, 6, 7, 8, 9, 10, 11, 12] ?_
    iterate 13 (refine wpGT_take rfl hHeld ?_; apply Exists.intro; refine ⟨fun wq hSw => ?_, ?_⟩; (· ((try dsimp only at hSw); go_simp; try with_reducible rfl)); (try simp only [Act.put, List.setIfInBounds_toArray, List.set_cons_zero, List.set_cons_succ]))
    refine wpGT_nil ?_
    refine wpG_one 13 rfl (by kernel_rfl) (fun K hK => ?_)
    refine stepR_callW rfl 9 _ _ rfl #[] (by simp) (run_enter Tryz.func9 (by kernel_rfl) rfl) (implStateNew_any wr.drew) ?_
    rintro e w5 ⟨u5, rfl, o5, d5⟩
    refine ⟨_, rfl, ?_⟩
    obtain ⟨ra5, rc5, oa5, oc5, rfl, -, -⟩ := o5.read
    have q5 : Below wr.heap.size wr w5 := q0.trans d5
    have hHeld5 : (fun w' : World => w'.cell? ⟨X, 1, none⟩ = some (.slice (some ⟨sb, so, none⟩) n sc) ∧ w'.cell? ⟨X, 3, none⟩ = some (.slice (some ⟨hb, ho, none⟩) n hc) ∧ w'.cell? ⟨hb, ho + j, none⟩ = some (.slice none 0 0) ∧ w'.cell? ⟨sb, so + j * 4, none⟩ = some (.int .i64 0) ∧ w'.cell? ⟨sb, so + j * 4 + 1, none⟩ = some (.slice ra 4 rc) ∧ w'.cell? ⟨sb, so + j * 4 + 2, none⟩ = some (.slice oa 0 oc) ∧ w'.cell? ⟨sb, so + j * 4 + 3, none⟩ = some (.int .i64 0)) w5 := ⟨(q5.cell (p := ⟨X, 1, none⟩) lX).trans r1, (q5.cell (p := ⟨X, 3, none⟩) lX).trans r3, (q5.cell (p := ⟨hb, _, none⟩) hbl).trans hh, (q5.cell (p := ⟨sb, _, none⟩) hsl).trans s0, (q5.cell (p := ⟨sb, _, none⟩) hsl).trans s1, (q5.cell (p := ⟨sb, _, none⟩) hsl).trans s2, (q5.cell (p := ⟨sb, _, none⟩) hsl).trans s3⟩
    have O5 : Hid (Sl w5 ra5 [0, 0, 0, 0] ∧ Sl w5 oa5 [] ∧ Sl w5 ra [0, 0, 0, 0] ∧ Sl w5 oa []) := ⟨o5.parts.1.slOf, o5.parts.2.1.slOf, hr4.below q5, ho4.below q5⟩
    refine hK.out _ _ (fun _ => hHeld5) ?_
    clear hHeld
    have hHeld := hHeld5
    clear hHeld5 d5 hK K o5
    (try simp only [Act.put, List.setIfInBounds_toArray, List.set_cons_zero, List.set_cons_succ])
    refine wpG_one 14 rfl (by kernel_rfl) (fun K hK => ?_)
    refine stepR_callW rfl 8 _ _ rfl #[stV 0 ra 4 rc oa 0 oc 0, stV 0 ra5 4 rc5 oa5 0 oc5 0] (by simp [Act.eval]) (run_enter Tryz.func8 (by kernel_rfl) rfl) (sameState_same 0 0 ra oa ra5 oa5 rc oc rc5 oc5 [0, 0, 0, 0] [] w5 (by simp) (by simp) O5.out.2.2.1 O5.out.2.2.2 O5.out.1 O5.out.2.1) ?_
    rintro e w6 ⟨rfl, d6⟩
    refine ⟨_, rfl, ?_⟩
    have q6 : Below wr.heap.size wr w6 := q5.trans (d6.mono q5.size)
    have hHeld6 : (fun w' : World => w'.cell? ⟨X, 1, none⟩ = some (.slice (some ⟨sb, so, none⟩) n sc) ∧ w'.cell? ⟨X, 3, none⟩ = some (.slice (some ⟨hb, ho, none⟩) n hc) ∧ w'.cell? ⟨hb, ho + j, none⟩ = some (.slice none 0 0) ∧ w'.cell? ⟨sb, so + j * 4, none⟩ = some (.int .i64 0) ∧ w'.cell? ⟨sb, so + j * 4 + 1, none⟩ = some (.slice ra 4 rc) ∧ w'.cell? ⟨sb, so + j * 4 + 2, none⟩ = some (.slice oa 0 oc) ∧ w'.cell? ⟨sb, so + j * 4 + 3, none⟩ = some (.int .i64 0)) w6 := ⟨(q6.cell (p := ⟨X, 1, none⟩) lX).trans r1, (q6.cell (p := ⟨X, 3, none⟩) lX).trans r3, (q6.cell (p := ⟨hb, _, none⟩) hbl).trans hh, (q6.cell (p := ⟨sb, _, none⟩) hsl).trans s0, (q6.cell (p := ⟨sb, _, none⟩) hsl).trans s1, (q6.cell (p := ⟨sb, _, none⟩) hsl).trans s2, (q6.cell (p := ⟨sb, _, none⟩) hsl).trans s3⟩
    refine hK.out _ _ (fun _ => hHeld6) ?_
    clear hHeld
    have hHeld := hHeld6
    clear hHeld6 d6 hK K O5 q5
    (try simp only [Act.put, List.setIfInBounds_toArray, List.set_cons_zero, List.set_cons_succ])
    refine wpGT_of [15, 16] ?_
    iterate 2 (refine wpGT_take rfl hHeld ?_; apply Exists.intro; refine ⟨fun wq hSw => ?_, ?_⟩; (· ((try dsimp only at hSw); go_simp; try with_reducible rfl)); (try simp only [Act.put, List.setIfInBounds_toArray, List.set_cons_zero, List.set_cons_succ]))
    refine wpGT_nil ?_
    refine wpG_done (by kernel_rfl) ?_ _
    have K6 : Hid (NwK w6 X n qa qc sa sc wa wc ha hc L H ∧ Below w1.heap.size w1 w6) := ⟨HK.out.1.below q6, HK.out.2.trans (q6.mono HK.out.2.size)⟩
    clear hHeld q6 q0 HK r0 r1 r2 r3 lX hh s0 s1 s2 s3 hr4 ho4 hbl hsl
    obtain ⟨z0, z1, z2, z3⟩ := K6.out.1.bx
    go_wp2_with fail
    go_loopw [9] (fun i wq => ∃ l : Nat, l ≤ n ∧ i = .int .i64 l ∧ Hid (NwK wq X n qa qc sa sc wa wc ha hc L H ∧ Below w1.heap.size w1 wq)) (fun i _ => n - (intOf i).toNat)
    case atStart => exact ⟨0, Nat.zero_le _, rfl, K6⟩
    case round =>
     obtain ⟨l, hl2, rfl, HQ⟩ := hrel
     obtain ⟨r0, r1, r2, r3⟩ := HQ.out.1.bx
     by_cases hlt2 : l < n
     ·have hlt2' : (l : Int) < (n : Int) := by omega
      go_wp2_with fail
      refine (implWayOf_nil qa n qc (.slice sa n sc) wa wc (.slice ha n hc) j l wr h4 hlt hlt2 HQ.out.1.ways).mono ?_
      rintro e w7 ⟨rfl, d7⟩
      have K7 : Hid (NwK w7 X n qa qc sa sc wa wc ha hc L H ∧ Below w1.heap.size w1 w7) := ⟨HQ.out.1.below d7, HQ.out.2.trans (d7.mono HQ.out.2.size)⟩
      clear d7 HQ r0 r1 r2 r3
      go_wp2_with fail
      go_roundw
      case rel => exact ⟨l + 1, by omega, by go_num, K7⟩
      case measure => simp [intOf]; omega
     ·have hlt2' : ¬ (l : Int) < (n : Int) := by omega
      go_wp2_with fail
      go_roundw
      case rel => exact ⟨j + 1, by omega, by go_num, HQ⟩
      case measure => simp [intOf]; omega
   ·have hlt' : ¬ (j : Int) < (n : Int) := by omega
    obtain ⟨A', C', us, g⟩ := HK.out.1.g
    have HG : Hid (SysG wr (nwX qa n qc A' L C' H (.slice sa n sc) (.slice wa (n * n) wc) (.slice ha n hc) us)) := g
    clear g
    go_wp2_with fail
    refine (implSysOk_any (nwX qa n qc A' L C' H (.slice sa n sc) (.slice wa (n * n) wc) (.slice ha n hc) us) wr HG.out (nwX_len h4 HL.out) (HV.out _ HK.out.2)).mono ?_
    rintro e w6 ⟨rfl, d6⟩
    rw [nwX_y, HO.out]
    have k6 : w6.cell? ⟨X, 0, none⟩ = some (.slice qa n qc) := (d6.cell (p := ⟨X, 0, none⟩) lX).trans r0
    have B6 : Hid (Below w1.heap.size w1 w6) := HK.out.2.trans (d6.mono HK.out.2.size)
    clear d6
    go_wp2
    go_ret
    exact ⟨rfl, B6.out⟩
theorem newDLaw_great (a0 : Option Addr) (len cap : Nat) (w : World) (_hm : len ≤ maxLen) (hl : 1048576 < len) :
  Calls Tryz.prog 3 #[.slice a0 len cap] w fun e w' => e = .returned (.bool true) ∧ Below w.heap.size w w' := by
 go_enter Tryz.func3, Tryz.ntmps3
 go_wp2_with fail
 refine (big_any a0 len cap w).mono ?_
 rintro e w1 ⟨rfl, rfl⟩
 rw [decide_eq_true (show (1048576 : Int) < (len : Int) by omega)]
 go_wp2
 go_ret
 exact ⟨rfl, Below.refl _ _⟩
end Go.Proofs.YtdmpcnmbnfdfmaaGreatDoor
