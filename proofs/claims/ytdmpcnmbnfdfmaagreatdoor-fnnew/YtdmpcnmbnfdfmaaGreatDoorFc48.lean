/- The walk of the program's SysNew. -/
import Derived.Test.YtdmpcnmbnfdfmaaGreatDoorFc0
import Derived.Test.YtdmpcnmbnfdfmaaGreatDoorFc46
import Derived.Test.YtdmpcnmbnfdfmaaGreatDoorFc43
import Derived.Test.YtdmpcnmbnfdfmaaGreatDoorFc32
namespace Go.Proofs.YtdmpcnmbnfdfmaaGreatDoor
set_option maxRecDepth 100000
set_option maxHeartbeats 8000000
open Go.ChangeShapes Go.WideShapes Go.ChangeAt Go.RowKit Go.Deep
section
variable {P : Program} {ops : Array Oper} {Q : Exit → Act → World → Prop} {md : Region.Mode} {S : World → Prop} {G : Nat → Bool}
theorem wpG_three (lst : Bool → Bool → Bool → Bool → Array Bool) (i2 i3 i4 i5 : Nat) {o5 : Oper} (I : Bool → Bool → Bool → Act → World → Prop) (J : Bool → Act → World → Prop) {f0 : Nat}
  (hrd : ∀ b c d, (b && c) = false → Region.ready md ops (lst b c d false) = outI b i2 ++ (outI c i3 ++ outI d i4))
  (s2 : ∀ c d, (lst false c d false).setIfInBounds i2 true = lst true c d false) (s3 : ∀ b d, (lst b false d false).setIfInBounds i3 true = lst b true d false) (s4 : ∀ b c e, (lst b c false e).setIfInBounds i4 true = lst b c true e) (s5 : ∀ d, (lst true true d false).setIfInBounds i5 true = lst true true d true)
  (e5 : ops.toList[i5]? = some o5) (hs : Region.noSelect ops = true) (hf : ∀ d, Region.free md ops (lst true true d false) i5 = true) (hr5 : ∀ d, (Region.ready md ops (lst true true d false)).contains i5 = true) (hrJ : Region.ready md ops (lst true true false true) = [i4]) (hQ : ∀ v c a w, Q (.panic c) (a.put o5.dst v) w → Q (.panic c) a w)
  (h2 : ∀ c d x w, I false c d x w → wpOp P ops Q i2 (fun x' w' => (S w → G i2 = false → S w') ∧ I true c d x' w') x w)
  (h3 : ∀ b d x w, I b false d x w → wpOp P ops Q i3 (fun x' w' => (S w → G i3 = false → S w') ∧ I b true d x' w') x w) (h4 : ∀ b c x w, I b c false x w → wpOp P ops Q i4 (fun x' w' => (S w → G i4 = false → S w') ∧ I b c true x' w') x w)
  (h5 : ∀ d x w, I true true d x w → Region.wanted o5 (yielded ops x.tmps) = true ∧ ∃ v, (∀ w, (execOp x.eval o5).run P w = .ok (.value v) w) ∧ J d (x.put o5.dst v) w)
  (hJ : ∀ x w, J false x w → wpOp P ops Q i4 (fun x' w' => (S w → G i4 = false → S w') ∧ J true x' w') x w)
  (hend : ∀ x w, J true x w → wpG P md ops Q S G f0 (lst true true true true) x w) :
  ∀ (m : Nat) (b c d : Bool) (x : Act) (w : World), notB b + notB c + notB d = m → I b c d x w → wpG P md ops Q S G (f0 + m + 1) (lst b c d false) x w := by
 intro m
 induction m with
 | zero =>
  intro b c d x w hm hI
  obtain ⟨rfl, rfl, rfl⟩ : b = true ∧ c = true ∧ d = true := by
   cases b <;> cases c <;> cases d <;> simp [notB] at hm ⊢
  obtain ⟨hw, v, hv, hj⟩ := h5 _ x w hI
  exact wpG_takeW i5 e5 hs (hf _) (hr5 _) hQ hw ⟨v, hv, by rw [s5]; exact hend _ _ hj⟩
 | succ m ih =>
  intro b c d x w hm hI
  rcases Bool.eq_false_or_eq_true (b && c) with hT | hne
  ·obtain ⟨rfl, rfl⟩ : b = true ∧ c = true := by
    cases b <;> cases c <;> simp at hT ⊢
   obtain ⟨rfl, rfl⟩ : d = false ∧ m = 0 := by
    cases d <;> simp [notB] at hm ⊢ <;> exact hm
   obtain ⟨hw, v, hv, hj⟩ := h5 _ x w hI
   refine wpG_takeW i5 e5 hs (hf _) (hr5 _) hQ hw ⟨v, hv, ?_⟩
   rw [s5]
   refine ⟨(fun h0 => by rw [hrJ] at h0; cases h0), fun i hi => ?_⟩
   rw [hrJ] at hi
   obtain rfl := List.mem_singleton.1 hi
   refine wpOp_mono (fun x' w' h => ⟨h.1, ?_⟩) (hJ _ _ hj)
   rw [s4]
   exact hend _ _ h.2
  have hr := hrd b c d hne
  refine ⟨fun h0 => ?_, fun i hi => ?_⟩
  ·rw [hr] at h0
   cases b <;> cases c <;> cases d <;> simp [outI] at h0 hne
  ·rw [hr, List.mem_append, List.mem_append] at hi
   rcases hi with hi | hi | hi
   ·obtain ⟨rfl, rfl⟩ := outI_mem hi
    refine wpOp_mono (fun x' w' h => ⟨h.1, ?_⟩) (h2 c d x w hI)
    rw [s2]
    exact ih true c d x' w' (by simp [notB] at hm ⊢; omega) h.2
   ·obtain ⟨rfl, rfl⟩ := outI_mem hi
    refine wpOp_mono (fun x' w' h => ⟨h.1, ?_⟩) (h3 b d x w hI)
    rw [s3]
    exact ih b true d x' w' (by simp [notB] at hm ⊢; omega) h.2
   ·obtain ⟨rfl, rfl⟩ := outI_mem hi
    refine wpOp_mono (fun x' w' h => ⟨h.1, ?_⟩) (h4 b c x w hI)
    rw [s4]
    exact ih b c true x' w' (by simp [notB] at hm ⊢; omega) h.2
end
theorem NwS.progs {W1 : World} {N n k : Nat} {L : Nat → Nat} {H : Nat → Nat → I5} {own : Bool} {w w' : World} {vp vs vw vh : Value} {c : Nat → Nat} {up us : Nat → Value} (h : NwS W1 N n L H own k w vp vs vw vh c up us) {v : Value} {u : Nat → Value} (o : LI w' (fun j => w.heap.size ≤ j ∧ j < w'.heap.size) v n u L H) (hb : Below w.heap.size w w') : NwS W1 N n L H true k (w'.setCell ⟨N, 0, none⟩ v) v vs vw vh (rcol c w.heap.size 1) u us := by
 have hs := h.be.size
 have hN := h.lt
 have h2 := h.below hb
 have hcN : rcol c w.heap.size 1 N = 0 := (rcol_old hN).trans h.cN
 have hk : ∀ i, i ≠ 0 → ∀ j, Cl W1.heap.size (rcol c w.heap.size 1) i j → j < w'.heap.size → (w'.setCell ⟨N, 0, none⟩ v).heap[j]? = w'.heap[j]? := fun i hi j hj _ => Below.heap_setCell _ _ _ _ fun e => hi (by rw [← hj.2, e, hcN])
 obtain ⟨x0, x1, x2, x3⟩ := h2.bx
 exact ⟨h2.be.setCell h.bN _, ⟨World.cell?_setCell_same _ _ _ x0, (World.cell?_setCell_other _ _ _ _ (by simp)).trans x1, (World.cell?_setCell_other _ _ _ _ (by simp)).trans x2, (World.cell?_setCell_other _ _ _ _ (by simp)).trans x3⟩, fun j => by rw [World.frozen?_setCell]; exact h2.fr j, h.bN, hcN, fun _ => (o.mono fun j hj _ => ⟨Nat.le_trans hs hj.1, rcol_new hj.1⟩).keep (hk 1 (by decide)), ((h.s.mono fun j hj hl => hj.old hl).below hb).keep (hk 2 (by decide)), ((h.t.mono fun j hj hl => hj.old hl).below hb).keep (hk 3 (by decide)), ((h.h.mono fun j hj hl => hj.old hl).below hb).keep (hk 4 (by decide))⟩
theorem implSysNew_any (pa : Option Addr) (n pc : Nat) (A : Nat → Option Addr) (L C : Nat → Nat) (H : Nat → Nat → I5) (w : World) (hn : n ≤ 1048576) (hL : ∀ i, i < n → L i ≤ 1048576) (hr : RowS w pa n fun i => .slice (A i) (L i) (C i)) (hI : ∀ i, i < n → ∃ b, A i = some ⟨b, 0, none⟩ ∧ b < w.heap.size ∧ InsAt w b 0 (L i) (H i)) (hV : w.cell? ⟨0, 0, none⟩ = some (.iface 144 (.agg #[.pointer (some ⟨1, 94, none⟩)]))) :
  Calls Tryz.prog 6 #[.slice pa n pc] w (NwR w n L H) := by
 have hn' : (n : Int) ≤ 1048576 := by omega
 have HR : Hid (∀ wx, Below w.heap.size w wx → (RowS wx pa n fun i => .slice (A i) (L i) (C i)) ∧ ∀ i, i < n → ∃ b, A i = some ⟨b, 0, none⟩ ∧ b < wx.heap.size ∧ InsAt wx b 0 (L i) (H i)) := fun wx hb => ⟨hr.below hb, fun i hi => by
  obtain ⟨b, e, hlt, h⟩ := hI i hi
  exact ⟨b, e, Nat.lt_of_lt_of_le hlt hb.size, h.below hb hlt⟩⟩
 have HV0 : Hid (∀ wx, Below w.heap.size w wx → wx.cell? ⟨0, 0, none⟩ = some (.iface 144 (.agg #[.pointer (some ⟨1, 94, none⟩)]))) := fun wx hb => (hb.cell (p := ⟨0, 0, none⟩) (World.block_lt_of_cell? w _ hV)).trans hV
 have HP : Hid (∀ wx, Below w.heap.size w wx → Calls Tryz.prog 20 #[.slice pa n pc] wx fun e w' => ∃ v u, e = .returned v ∧ LI w' (fun k => wx.heap.size ≤ k ∧ k < w'.heap.size) v n u L H ∧ Below wx.heap.size wx w') := fun wx hb => copyListsIns_own pa n pc A L C H wx hn hL (HR.out wx hb).1 fun i hi => by
  obtain ⟨b, e, hlt, h⟩ := (HR.out wx hb).2 i hi
  exact ⟨b, 0, e, by rw [e]; exact srcI hlt h⟩
 have HL : Hid (∀ i, i < n → L i ≤ 1048576) := hL
 have BW : Hid (Below w.heap.size w (w.alloc (zQ3))) := below_allocL _ _
 have RB : Hid (BoxC (w.alloc (zQ3)) w.heap.size (.slice none 0 0) (.slice none 0 0) (.slice none 0 0) (.slice none 0 0) ∧ ∀ j, (w.alloc (zQ3)).frozen? ⟨w.heap.size, j, none⟩ = false) := ⟨BoxC.new w _ _ _ _ _, fun j => new_frozen _ _ _ _ rfl⟩
 have hM : w.heap.size ≤ w.heap.size := Nat.le_refl _
 clear hL hr hI hV
 by_cases h4 : n ≤ 4
 case neg =>
  have h4' : (4 : Int) < (n : Int) := by omega
  have HV : Hid (snB n L H = false) := by
   show snB n L H = false
   rw [snB, decide_eq_false h4]
   rfl
  go_enter Tryz.func6, Tryz.ntmps6
  go_upto_region 1 with fail
  generalize w.alloc (zQ3) = W1 at *
  obtain ⟨⟨r0, r1, r2, r3⟩, rf⟩ := RB.out
  go_wp2
  exact bodyPost_ret (v := .tuple #[sysV none 0 0 none 0 0 none 0 0 none 0 0, .bool false]) (by simp [results, Tryz.results6, go_sem, r0, r1, r2, r3]) rfl (NwR.no HV.out ((((BW.out.setCell hM _).setCell hM _).setCell hM _).setCell hM _))
 have h4' : ¬ (4 : Int) < (n : Int) := by omega
 obtain ⟨NN, hNN⟩ : ∃ NN, NN = n * n := ⟨_, rfl⟩
 have HNN : Hid (NN = n * n) := hNN
 have hm0 : (n : Int) * (n : Int) = (NN : Int) := by rw [hNN]; simp
 have h16 : NN ≤ 16 := by rw [hNN]; exact Nat.le_trans (Nat.mul_le_mul h4 h4) (by omega)
 have h16' : (NN : Int) ≤ 16 := by omega
 have hn4 : (n : Int) ≤ 4 := by omega
 clear hNN
 go_enter Tryz.func6, Tryz.ntmps6
 go_upto_region 4 with fail
 have z1 : w.heap.size < (w.alloc (zQ3)).heap.size := by simp
 generalize w.alloc (zQ3) = W1 at *
 have F0 : Hid (NwF W1 n L H false false false false (.slice pa n pc) undef undef undef W1.drew) := ⟨(Below.refl _ _).drew, fun _ => 0, (fun e => by cases e), (fun e => by cases e), (fun e => by cases e), (fun e => by cases e)⟩
 refine wp_region_G (fun _ => True) (fun _ => false) (by kernel_rfl) ?_
 refine wpG_take 0 rfl trivial ?_
 apply Exists.intro
 refine ⟨fun wq hSw => ?_, ?_⟩
 ·(try dsimp only at hSw)
  go_simp
  try with_reducible rfl
 (try simp only [Act.put, List.setIfInBounds_toArray, List.set_cons_zero, List.set_cons_succ])
 refine wpG_take 1 rfl trivial ?_
 apply Exists.intro
 refine ⟨fun wq hSw => ?_, ?_⟩
 ·(try dsimp only at hSw)
  go_simp
  try with_reducible rfl
 (try simp only [Act.put, List.setIfInBounds_toArray, List.set_cons_zero, List.set_cons_succ])
 refine wpG_take 2 rfl trivial ?_
 apply Exists.intro
 refine ⟨fun wq hSw => ?_, ?_⟩
 ·(try dsimp only at hSw)
  go_simp
  try with_reducible rfl
 (try simp only [Act.put, List.setIfInBounds_toArray, List.set_cons_zero, List.set_cons_succ])
 refine wpG_take 3 rfl trivial ⟨.int .i64 (NN : Int), fun wq _ => ?_, ?_⟩
 ·go_simp
  rw [IntKind.wrap_i64]
  omega
 (try simp only [Act.put, List.setIfInBounds_toArray, List.set_cons_zero, List.set_cons_succ])
 refine wpG_take 5 rfl trivial ?_
 apply Exists.intro
 refine ⟨fun wq hSw => ?_, ?_⟩
 ·(try dsimp only at hSw)
  go_simp
  try with_reducible rfl
 (try simp only [Act.put, List.setIfInBounds_toArray, List.set_cons_zero, List.set_cons_succ])
 refine wpG_cast 5 #[true, true, true, true, false, true, false, false, false, false] (by kernel_rfl) (by kernel_rfl) ?_
 refine wpG_three (fun b c d e => #[true, true, true, true, b, true, c, e, d, false]) 4 6 8 7 (fun b c d x wq => ∃ v2 v3 v4, x = ⟨#[.slice pa n pc, undef, .pointer (some ⟨w.heap.size, 0, none⟩), .bool false, .int .i64 n, v4, .slice pa n pc, .int .i64 n, .int .i64 n, .bool false, undef, .slice pa n pc, .int .i64 n, .int .i64 n, .int .i64 NN, v2, .int .i64 n, v3, undef, undef, undef, undef, undef, undef, undef, undef, undef, undef, undef, undef, undef, undef, undef, undef, undef, undef, undef, undef], []⟩ ∧ NwF W1 n L H false b c d (.slice pa n pc) v2 v3 v4 wq) (fun d x wq => ∃ a2 c2 a3 c3 v4, x = ⟨#[.slice pa n pc, undef, .pointer (some ⟨w.heap.size, 0, none⟩), .bool false, .int .i64 n, v4, .slice pa n pc, .int .i64 n, .int .i64 n, .bool false, undef, .slice pa n pc, .int .i64 n, .int .i64 n, .int .i64 NN, .slice a2 (n * n) c2, .int .i64 n, .slice a3 n c3, .agg #[.slice pa n pc, .slice none 0 0, .slice a2 (n * n) c2, .slice a3 n c3], undef, undef, undef, undef, undef, undef, undef, undef, undef, undef, undef, undef, undef, undef, undef, undef, undef, undef, undef], []⟩ ∧ NwF W1 n L H false true true d (.slice pa n pc) (.slice a2 (n * n) c2) (.slice a3 n c3) v4 wq) (f0 := 1) ?_ (fun _ _ => rfl) (fun _ _ => rfl) (fun _ _ _ => rfl) (fun _ => rfl) rfl (by kernel_rfl) (fun d => by cases d <;> kernel_rfl) (fun d => by cases d <;> kernel_rfl) (by kernel_rfl) (fun _ _ _ _ h => h) ?_ ?_ ?_ ?_ ?_ ?_ 3 false false false _ _ rfl ⟨_, _, _, rfl, F0.out⟩
 ·intro b c d h
  cases b <;> cases c <;> cases d <;> first | exact absurd h (by decide) | kernel_rfl
 ·rintro c d x wq ⟨v2, v3, v4, rfl, F⟩
  have hmk := run_make_nils kndTT nilItem NN (by omega) wq
  refine wpOp_step rfl fun K hK => ?_
  go_simp
  refine hK _ _ ⟨fun _ _ => trivial, .slice (some ⟨wq.heap.size, 0, none⟩) NN NN, v3, v4, rfl, ?_⟩
  rw [HNN.out]
  exact F.two (by rw [← HNN.out]; omega)
 ·rintro b d x wq ⟨v2, v3, v4, rfl, F⟩
  have hmk := run_make_nils kndEE nilEvent n (by omega) wq
  refine wpOp_step rfl fun K hK => ?_
  go_simp
  exact hK _ _ ⟨fun _ _ => trivial, v2, .slice (some ⟨wq.heap.size, 0, none⟩) n n, v4, rfl, F.three (by omega)⟩
 ·rintro b c x wq ⟨v2, v3, v4, rfl, F⟩
  refine wpOp_step rfl fun K hK => ?_
  go_simp
  exact hK _ _ ⟨fun _ _ => trivial, v2, v3, .pointer (some ⟨wq.heap.size, 0, none⟩), rfl, F.four⟩
 ·rintro d x wq ⟨v2, v3, v4, rfl, F⟩
  obtain ⟨k, -, h2, h3, -⟩ := F.ow
  obtain ⟨a2, c2, rfl⟩ := ownsRow_slice (h2 rfl).row
  obtain ⟨a3, c3, rfl⟩ := ownsRow_slice (h3 rfl).row
  refine ⟨rfl, .agg #[.slice pa n pc, .slice none 0 0, .slice a2 (n * n) c2, .slice a3 n c3], fun wz => ?_, a2, c2, a3, c3, v4, rfl, F⟩
  go_simp
 ·rintro x wq ⟨a2, c2, a3, c3, v4, rfl, F⟩
  refine wpOp_step rfl fun K hK => ?_
  go_simp
  exact hK _ _ ⟨fun _ _ => trivial, a2, c2, a3, c3, .pointer (some ⟨wq.heap.size, 0, none⟩), rfl, F.four⟩
 rintro x w4 ⟨a2, c2, a3, c3, v4, rfl, F⟩
 clear F0
 obtain ⟨N, c, up, us, rfl, nl, ⟨g0, g1, g2, g3⟩, gf, ns⟩ := NwS.start F rfl (.inr trivial)
 refine wpG_one 9 rfl (by kernel_rfl) (fun K hK => ?_)
 go_simp
 refine hK.out _ _ (fun _ => trivial) ?_
 clear hK K
 (try simp only [List.setIfInBounds_toArray, List.set_cons_zero, List.set_cons_succ])
 refine wpG_done (by kernel_rfl) ?_ _
 have NS0 : Hid (NwS W1 N n L H false 0 ((((w4.setCell ⟨N, 0, none⟩ (.slice pa n pc)).setCell ⟨N, 1, none⟩ (.slice none 0 0)).setCell ⟨N, 2, none⟩ (.slice a2 (n * n) c2)).setCell ⟨N, 3, none⟩ (.slice a3 n c3)) (.slice pa n pc) (.slice none 0 0) (.slice a2 (n * n) c2) (.slice a3 n c3) c up us) := ns
 clear ns g0 g1 g2 g3 gf nl F
 go_upto_region 5 with fail
 generalize ((((w4.setCell ⟨N, 0, none⟩ (.slice pa n pc)).setCell ⟨N, 1, none⟩ (.slice none 0 0)).setCell ⟨N, 2, none⟩ (.slice a2 (n * n) c2)).setCell ⟨N, 3, none⟩ (.slice a3 n c3)) = W5 at *
 go_wp2_with fail
 go_loopw [21] (fun i wr => ∃ k : Nat, k ≤ n ∧ i = .int .i64 k ∧ Hid (∃ vs c up us, NwS W1 N n L H false k wr (.slice pa n pc) vs (.slice a2 (n * n) c2) (.slice a3 n c3) c up us)) (fun i _ => n - (intOf i).toNat)
 case atStart => exact ⟨0, Nat.zero_le _, rfl, _, _, _, _, NS0.out⟩
 case round =>
  clear NS0 c up us
  obtain ⟨k, hk, rfl, HK⟩ := hrel
  obtain ⟨vs, c, up, us, ns⟩ := HK.out
  have NS : Hid (NwS W1 N n L H false k wr (.slice pa n pc) vs (.slice a2 (n * n) c2) (.slice a3 n c3) c up us) := ns
  clear ns HK
  by_cases hlt : k < n
  ·have hlt' : (k : Int) < (n : Int) := by omega
   go_wp2_with fail
   obtain ⟨x0, x1, x2, x3⟩ := NS.out.bx
   have xf := NS.out.fr
   obtain ⟨sa, sc, rfl⟩ := ownsRow_slice NS.out.s.row
   have nl := NS.out.lt
   refine wp_region_G (fun w' => w'.cell? ⟨N, 1, none⟩ = some (.slice sa k sc)) (fun i => i == 6) (by kernel_rfl) ?_
   have hHeld : (fun w' : World => w'.cell? ⟨N, 1, none⟩ = some (.slice sa k sc)) wr.drew := x1
   refine wpGT_of [0, 1] ?_
   iterate 2 (refine wpGT_take rfl hHeld ?_; apply Exists.intro; refine ⟨fun wq hSw => ?_, ?_⟩; (· ((try dsimp only at hSw); go_simp; try with_reducible rfl)); (try simp only [Act.put, List.setIfInBounds_toArray, List.set_cons_zero, List.set_cons_succ]))
   refine wpGT_nil ?_
   refine wpG_one 2 rfl (by kernel_rfl) (fun K hK => ?_)
   refine stepR_call rfl 9 _ _ rfl #[] (by simp) (run_enter Tryz.func9 (by kernel_rfl) rfl) (implStateNew_any wr.drew) ?_
   rintro e w5 ⟨u5, rfl, o5, d5⟩
   refine ⟨_, rfl, ?_⟩
   obtain ⟨ra5, rc5, oa5, oc5, rfl, -, -⟩ := o5.read
   have q5 : Below wr.heap.size wr w5 := (Below.refl wr.heap.size wr).drew.trans d5
   have hc5 := (bcell q5).1
   refine hK.out _ _ (fun _ => (hc5 _ _ nl).trans x1) ?_
   clear hK K
   (try simp only [Act.put, List.setIfInBounds_toArray, List.set_cons_zero, List.set_cons_succ])
   refine wpG_one 3 rfl (by kernel_rfl) (fun K hK => ?_)
   go_simp
   have ba := below_allocL w5 (oQ2 0 ra5 4 rc5 oa5 0 oc5 0)
   refine hK.out _ _ (fun _ => ((ba.cell (p := ⟨N, 1, none⟩) (Nat.lt_of_lt_of_le nl q5.size)).trans ((hc5 _ _ nl).trans x1))) ?_
   clear ba
   clear hK K
   (try simp only [Act.put, List.setIfInBounds_toArray, List.set_cons_zero, List.set_cons_succ])
   refine wpG_one 4 rfl (by kernel_rfl) (fun K hK => ?_)
   refine stepR_append_val kndS w5 rfl rfl _ _ rfl 0 (.slice sa k sc) k _ rfl (NS.out.s.below q5).row #[.int .i64 0, .slice ra5 4 rc5, .slice oa5 0 oc5, .int .i64 0] rfl rfl (by intro u hu; simp at hu; rcases hu with rfl | rfl | rfl | rfl <;> rfl) (by omega) (Nat.zero_le _) ?_
   intro v6 w6 o6 g6 q6 n6
   obtain ⟨a6, c6, rfl⟩ := ownsRow_slice o6
   have gN : w6.heap[N]? = wr.heap[N]? := (g6.block N (Nat.lt_of_lt_of_le nl q5.size) fun e => by
    have := (NS.out.s.rb N e.symm).2
    rw [NS.out.cN] at this
    cases this).trans (q5.block N nl)
   have y1 := (World.cell?_of_block gN).trans x1
   have yf : ∀ j, w6.frozen? ⟨N, j, none⟩ = false := fun j => (World.frozen?_of_block gN).trans (xf j)
   have NS6 : Hid (NwS W1 N n L H false (k + 1) (w6.setCell ⟨N, 1, none⟩ (.slice a6 (k + 1) c6)) (.slice pa n pc) (.slice a6 (k + 1) c6) (.slice a2 (n * n) c2) (.slice a3 n c3) (rcol c wr.heap.size 2) up (fun j => if j = k then stV 0 ra5 4 rc5 oa5 0 oc5 0 else us j)) := NS.out.push q5 (o5.mono (by simp)) o6 g6 q6
   refine hK.out _ _ (fun _ => y1) ?_
   clear hHeld
   have hHeld : (fun w' : World => w'.cell? ⟨N, 1, none⟩ = some (.slice sa k sc)) w6 := y1
   clear o6 g6 q6 n6 gN
   clear hK K
   (try simp only [Act.put, List.setIfInBounds_toArray, List.set_cons_zero, List.set_cons_succ])
   refine wpG_take 5 rfl hHeld ?_
   apply Exists.intro
   refine ⟨fun wq hSw => ?_, ?_⟩
   ·(try dsimp only at hSw)
    go_simp
    try with_reducible rfl
   (try simp only [Act.put, List.setIfInBounds_toArray, List.set_cons_zero, List.set_cons_succ])
   refine wpG_one 6 rfl (by kernel_rfl) (fun K hK => ?_)
   have y2 := yf 1
   go_simp
   refine hK.out _ _ (fun h => ?_) ?_
   ·exact absurd h (by decide)
   clear hK K
   (try simp only [Act.put, List.setIfInBounds_toArray, List.set_cons_zero, List.set_cons_succ])
   refine wpG_done (by kernel_rfl) ?_ _
   clear x0 x1 x2 x3 xf y1 y2 yf hHeld o5 d5 q5 hc5
   go_wp2
   go_roundw
   case rel => exact ⟨k + 1, by omega, by go_num, _, _, _, _, NS6.out⟩
   case measure => simp [intOf]; omega
  ·have hkn : k = n := by omega
   have NS' := NS.out
   rw [hkn] at NS'
   obtain ⟨sa, sc, rfl⟩ := ownsRow_slice NS'.s.row
   have NE : Hid (NwS W1 N n L H false n wr (.slice pa n pc) (.slice sa n sc) (.slice a2 (n * n) c2) (.slice a3 n c3) c up us) := NS'
   clear NS NS' hkn
   have HG : Hid (∀ wx, Below wr.heap.size wr wx → Calls Tryz.prog 11 #[sysV pa n pc sa n sc a2 (n * n) c2 a3 n c3] wx fun e w' => e = .returned (.bool (nwY n L H).okB) ∧ Below wx.heap.size wx w') := fun wx hb => by
    have h := NE.out.below hb
    have hw := BW.out.trans (h.be.mono BW.out.size)
    exact implSysOk_any (nwX pa n pc A L C H (.slice sa n sc) (.slice a2 (n * n) c2) (.slice a3 n c3) us) wx (h.g (HR.out wx hw).1 (HR.out wx hw).2) (nwX_len h4 HL.out) (HV0.out wx hw)
   obtain ⟨x0, x1, x2, x3⟩ := NE.out.bx
   go_wp2_with fail
   refine (HG.out wr (Below.refl _ _)).mono ?_
   rintro e w6 ⟨rfl, q6⟩
   have NF : Hid (NwS W1 N n L H false n w6 (.slice pa n pc) (.slice sa n sc) (.slice a2 (n * n) c2) (.slice a3 n c3) c up us) := NE.out.below q6
   have hbe := NF.out.be
   have R6 : Hid (BoxC w6 w.heap.size (.slice none 0 0) (.slice none 0 0) (.slice none 0 0) (.slice none 0 0) ∧ ∀ j, w6.frozen? ⟨w.heap.size, j, none⟩ = false) := ⟨RB.out.1.below hbe, fun j => ((bcell hbe).2 _ j z1).trans (RB.out.2 j)⟩
   have B6 : Hid (Below w.heap.size w w6) := BW.out.trans (hbe.mono BW.out.size)
   clear q6 NE HG x0 x1 x2 x3 hbe
   obtain ⟨⟨r0, r1, r2, r3⟩, rf⟩ := R6.out
   rcases Bool.eq_false_or_eq_true (nwY n L H).okB with t | t
   case inr =>
    have HV : Hid (snB n L H = false) := by
     show snB n L H = false
     rw [snB, t, Bool.and_false]
    rw [t]
    clear t
    go_wp2
    exact bodyPost_ret (v := .tuple #[sysV none 0 0 none 0 0 none 0 0 none 0 0, .bool false]) (by simp [results, Tryz.results6, go_sem, r0, r1, r2, r3]) rfl (NwR.no HV.out ((((B6.out.setCell hM _).setCell hM _).setCell hM _).setCell hM _))
   have HV : Hid (snB n L H = true) := by
    show snB n L H = true
    rw [snB, t, decide_eq_true h4]
    rfl
   rw [t]
   clear t
   go_wp2_with fail
   refine (HP.out w6 B6.out).mono ?_
   rintro e w7 ⟨v7, u7, rfl, o7, q7⟩
   obtain ⟨a7, c7, rfl⟩ := ownsRow_slice o7.row
   have NG : Hid (NwS W1 N n L H true n (w7.setCell ⟨N, 0, none⟩ (.slice a7 n c7)) (.slice a7 n c7) (.slice sa n sc) (.slice a2 (n * n) c2) (.slice a3 n c3) (rcol c w6.heap.size 1) u7 us) := NF.out.progs o7 q7
   have N7 := NF.out.below q7
   obtain ⟨x0, -, -, -⟩ := N7.bx
   have xf := N7.fr
   go_upto_region 12 with fail
   clear o7 q7 N7 x0 xf r0 r1 r2 r3 rf
   generalize w7.setCell ⟨N, 0, none⟩ (.slice a7 n c7) = w8 at *
   have hbe := NG.out.be
   have R8 : Hid (BoxC w8 w.heap.size (.slice none 0 0) (.slice none 0 0) (.slice none 0 0) (.slice none 0 0) ∧ ∀ j, w8.frozen? ⟨w.heap.size, j, none⟩ = false) := ⟨RB.out.1.below hbe, fun j => ((bcell hbe).2 _ j z1).trans (RB.out.2 j)⟩
   have B8 : Hid (Below w.heap.size w w8) := BW.out.trans (hbe.mono BW.out.size)
   clear hbe
   obtain ⟨⟨r0, r1, r2, r3⟩, rf⟩ := R8.out
   obtain ⟨x0, x1, x2, x3⟩ := NG.out.bx
   go_wp2
   exact bodyPost_ret (v := .tuple #[sysV a7 n c7 sa n sc a2 (n * n) c2 a3 n c3, .bool true]) (by simp [results, Tryz.results6, go_sem, r0, r1, r2, r3]) rfl (NwR.yes HV.out (((NG.out.own1 rfl).out4 z1 _ _ _ _).base (Nat.le_of_lt z1) (by simp)) ((((B8.out.setCell hM _).setCell hM _).setCell hM _).setCell hM _))
end Go.Proofs.YtdmpcnmbnfdfmaaGreatDoor
