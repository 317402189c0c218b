/- Proved: called with whatever programs, the program's SysNew answers as the model's SysNew, field by field, writes into no argument, and its answer is its own. One condition, tied to the program's text: errors.errorType holds what its text lays. -/
import Derived.Test.YtdigofhceahpdaaGreatDoorNc0
import Derived.Test.YtdigofhceahpdaaGreatDoorNc47
import Derived.Test.YtdigofhceahpdaaGreatDoorNc44
import Derived.Test.YtdigofhceahpdaaGreatDoorNc32
import Derived.Test.YtdigofhceahpdaaGreatDoorNc37
import Derived.Test.YtdigofhceahpdaaGreatDoorNc49
import Derived.Test.YtdigofhceahpdaaGreatDoorNc36
import Derived.Test.YtdigofhceahpdaaGreatDoorCards
import Derived.SevenTiedAt
namespace Go.Proofs.YtdigofhceahpdaaGreatDoor
set_option maxRecDepth 100000
set_option maxHeartbeats 8000000
open Go.ChangeShapes Go.WideShapes Go.ChangeAt Go.RowKit Go.Deep
section
variable {P : Program} {ops : Array Oper} {Q : Exit → Act → World → Prop} {md : Region.Mode} {S : World → Prop} {G : Nat → Bool}
theorem wpG_three (lst : Bool → Bool → Bool → Bool → Array Bool) (i2 i3 i4 i5 : Nat) {o5 : Oper} (I : Bool → Bool → Bool → Act → World → Prop) (J : Bool → Act → World → Prop) {f0 : Nat}
  (hrd : ∀ b c d, (b && c) = false → Region.ready md ops (lst b c d false) = outI b i2 ++ (outI c i3 ++ outI d i4))
  (s2 : ∀ c d, (lst false c d false).setIfInBounds i2 true = lst true c d false) (s3 : ∀ b d, (lst b false d false).setIfInBounds i3 true = lst b true d false) (s4 : ∀ b c e, (lst b c false e).setIfInBounds i4 true = lst b c true e) (s5 : ∀ d, (lst true true d false).setIfInBounds i5 true = lst true true d true)
  (e5 : ops.toList[i5]? = some o5) (hs : Region.noSelect ops = true) (hf : ∀ d, Region.free md ops (lst true true d false) i5 = true) (hr5 : ∀ d, (Region.ready md ops (lst true true d false)).contains i5 = true) (hrJ : Region.ready md ops (lst true true false true) = [i4]) (hQ : ∀ v c a w, Q (.panic c) (a.put o5.dst v) w → Q (.panic c) a w)
  (h2 : ∀ c d x w, I false c d x w → wpOp P ops Q i2 (fun x' w' => (S w → G i2 = false → S w') ∧ I true c d x' w') x w)
  (h3 : ∀ b d x w, I b false d x w → wpOp P ops Q i3 (fun x' w' => (S w → G i3 = false → S w') ∧ I b true d x' w') x w) (h4 : ∀ b c x w, I b c false x w → wpOp P ops Q i4 (fun x' w' => (S w → G i4 = false → S w') ∧ I b c true x' w') x w)
  (h5 : ∀ d x w, I true true d x w → Region.wanted o5 (yielded ops x.tmps) = true ∧ ∃ v, (∀ w, (execOp x.eval o5).run P w = .ok (.value v) w) ∧ J d (x.put o5.dst v) w)
  (hJ : ∀ x w, J false x w → wpOp P ops Q i4 (fun x' w' => (S w → G i4 = false → S w') ∧ J true x' w') x w)
  (hend : ∀ x w, J true x w → wpG P md ops Q S G f0 (lst true true true true) x w) :
  ∀ (m : Nat) (b c d : Bool) (x : Act) (w : World), notB b + notB c + notB d = m → I b c d x w → wpG P md ops Q S G (f0 + m + 1) (lst b c d false) x w := by
 intro m
 induction m with
 | zero =>
  intro b c d x w hm hI
  obtain ⟨rfl, rfl, rfl⟩ : b = true ∧ c = true ∧ d = true := by
   cases b <;> cases c <;> cases d <;> simp [notB] at hm ⊢
  obtain ⟨hw, v, hv, hj⟩ := h5 _ x w hI
  exact wpG_takeW i5 e5 hs (hf _) (hr5 _) hQ hw ⟨v, hv, by rw [s5]; exact hend _ _ hj⟩
 | succ m ih =>
  intro b c d x w hm hI
  rcases Bool.eq_false_or_eq_true (b && c) with hT | hne
  ·obtain ⟨rfl, rfl⟩ : b = true ∧ c = true := by
    cases b <;> cases c <;> simp at hT ⊢
   obtain ⟨rfl, rfl⟩ : d = false ∧ m = 0 := by
    cases d <;> simp [notB] at hm ⊢ <;> exact hm
   obtain ⟨hw, v, hv, hj⟩ := h5 _ x w hI
   refine wpG_takeW i5 e5 hs (hf _) (hr5 _) hQ hw ⟨v, hv, ?_⟩
   rw [s5]
   refine ⟨(fun h0 => by rw [hrJ] at h0; cases h0), fun i hi => ?_⟩
   rw [hrJ] at hi
   obtain rfl := List.mem_singleton.1 hi
   refine wpOp_mono (fun x' w' h => ⟨h.1, ?_⟩) (hJ _ _ hj)
   rw [s4]
   exact hend _ _ h.2
  have hr := hrd b c d hne
  refine ⟨fun h0 => ?_, fun i hi => ?_⟩
  ·rw [hr] at h0
   cases b <;> cases c <;> cases d <;> simp [outI] at h0 hne
  ·rw [hr, List.mem_append, List.mem_append] at hi
   rcases hi with hi | hi | hi
   ·obtain ⟨rfl, rfl⟩ := outI_mem hi
    refine wpOp_mono (fun x' w' h => ⟨h.1, ?_⟩) (h2 c d x w hI)
    rw [s2]
    exact ih true c d x' w' (by simp [notB] at hm ⊢; omega) h.2
   ·obtain ⟨rfl, rfl⟩ := outI_mem hi
    refine wpOp_mono (fun x' w' h => ⟨h.1, ?_⟩) (h3 b d x w hI)
    rw [s3]
    exact ih b true d x' w' (by simp [notB] at hm ⊢; omega) h.2
   ·obtain ⟨rfl, rfl⟩ := outI_mem hi
    refine wpOp_mono (fun x' w' h => ⟨h.1, ?_⟩) (h4 b c x w hI)
    rw [s4]
    exact ih b c true x' w' (by simp [notB] at hm ⊢; omega) h.2
end
theorem NwS.progs {W1 : World} {N n k : Nat} {L : Nat → Nat} {H : Nat → Nat → I5} {own : Bool} {w w' : World} {vp vs vw vh : Value} {c : Nat → Nat} {up us : Nat → Value} (h : NwS W1 N n L H own k w vp vs vw vh c up us) {v : Value} {u : Nat → Value} (o : LI w' (fun j => w.heap.size ≤ j ∧ j < w'.heap.size) v n u L H) (hb : Below w.heap.size w w') : NwS W1 N n L H true k (w'.setCell ⟨N, 0, none⟩ v) v vs vw vh (rcol c w.heap.size 1) u us := by
 have hs := h.be.size
 have hN := h.lt
 have h2 := h.below hb
 have hcN : rcol c w.heap.size 1 N = 0 := (rcol_old hN).trans h.cN
 have hk : ∀ i, i ≠ 0 → ∀ j, Cl W1.heap.size (rcol c w.heap.size 1) i j → j < w'.heap.size → (w'.setCell ⟨N, 0, none⟩ v).heap[j]? = w'.heap[j]? := fun i hi j hj _ => Below.heap_setCell _ _ _ _ fun e => hi (by rw [← hj.2, e, hcN])
 obtain ⟨x0, x1, x2, x3⟩ := h2.bx
 exact ⟨h2.be.setCell h.bN _, ⟨World.cell?_setCell_same _ _ _ x0, (World.cell?_setCell_other _ _ _ _ (by simp)).trans x1, (World.cell?_setCell_other _ _ _ _ (by simp)).trans x2, (World.cell?_setCell_other _ _ _ _ (by simp)).trans x3⟩, fun j => by rw [World.frozen?_setCell]; exact h2.fr j, h.bN, hcN, fun _ => (o.mono fun j hj _ => ⟨Nat.le_trans hs hj.1, rcol_new hj.1⟩).keep (hk 1 (by decide)), ((h.s.mono fun j hj hl => hj.old hl).below hb).keep (hk 2 (by decide)), ((h.t.mono fun j hj hl => hj.old hl).below hb).keep (hk 3 (by decide)), ((h.h.mono fun j hj hl => hj.old hl).below hb).keep (hk 4 (by decide))⟩
theorem implSysNew_any (pa : Option Addr) (n pc : Nat) (A : Nat → Option Addr) (L C : Nat → Nat) (H : Nat → Nat → I5) (w : World) (hn : n ≤ 1048576) (hL : ∀ i, i < n → L i ≤ 1048576) (hr : RowS w pa n fun i => .slice (A i) (L i) (C i)) (hI : ∀ i, i < n → ∃ b, A i = some ⟨b, 0, none⟩ ∧ b < w.heap.size ∧ InsAt w b 0 (L i) (H i)) (hV : w.cell? ⟨0, 0, none⟩ = some (.iface 236 (.agg #[.pointer (some ⟨1, 185, none⟩)]))) :
  Calls Tryz.prog 9 #[.slice pa n pc] w (NwR w n L H) := by
 have hn' : (n : Int) ≤ 1048576 := by omega
 have HR : Hid (∀ wx, Below w.heap.size w wx → (RowS wx pa n fun i => .slice (A i) (L i) (C i)) ∧ ∀ i, i < n → ∃ b, A i = some ⟨b, 0, none⟩ ∧ b < wx.heap.size ∧ InsAt wx b 0 (L i) (H i)) := fun wx hb => ⟨hr.below hb, fun i hi => by
  obtain ⟨b, e, hlt, h⟩ := hI i hi
  exact ⟨b, e, Nat.lt_of_lt_of_le hlt hb.size, h.below hb hlt⟩⟩
 have HV0 : Hid (∀ wx, Below w.heap.size w wx → wx.cell? ⟨0, 0, none⟩ = some (.iface 236 (.agg #[.pointer (some ⟨1, 185, none⟩)]))) := fun wx hb => (hb.cell (p := ⟨0, 0, none⟩) (World.block_lt_of_cell? w _ hV)).trans hV
 have HP : Hid (∀ wx, Below w.heap.size w wx → Calls Tryz.prog 28 #[.slice pa n pc] wx fun e w' => ∃ v u, e = .returned v ∧ LI w' (fun k => wx.heap.size ≤ k ∧ k < w'.heap.size) v n u L H ∧ Below wx.heap.size wx w') := fun wx hb => copyListsIns_own pa n pc A L C H wx hn hL (HR.out wx hb).1 fun i hi => by
  obtain ⟨b, e, hlt, h⟩ := (HR.out wx hb).2 i hi
  exact ⟨b, 0, e, by rw [e]; exact srcI hlt h⟩
 have HL : Hid (∀ i, i < n → L i ≤ 1048576) := hL
 have BW : Hid (Below w.heap.size w (w.alloc (zQ3))) := below_allocL _ _
 have RB : Hid (BoxC (w.alloc (zQ3)) w.heap.size (.slice none 0 0) (.slice none 0 0) (.slice none 0 0) (.slice none 0 0) ∧ ∀ j, (w.alloc (zQ3)).frozen? ⟨w.heap.size, j, none⟩ = false) := ⟨BoxC.new w _ _ _ _ _, fun j => new_frozen _ _ _ _ rfl⟩
 have hM : w.heap.size ≤ w.heap.size := Nat.le_refl _
 clear hL hr hI hV
 by_cases h4 : n ≤ 4
 case neg =>
  have h4' : (4 : Int) < (n : Int) := by omega
  have HV : Hid (snB n L H = false) := by
   show snB n L H = false
   rw [snB, decide_eq_false h4]
   rfl
  go_enter Tryz.func9, Tryz.ntmps9
  go_upto_region 1 with fail
  generalize w.alloc (zQ3) = W1 at *
  obtain ⟨⟨r0, r1, r2, r3⟩, rf⟩ := RB.out
  go_wp2
  exact bodyPost_ret (v := .tuple #[sysV none 0 0 none 0 0 none 0 0 none 0 0, .bool false]) (by simp [results, Tryz.results9, go_sem, r0, r1, r2, r3]) rfl (NwR.no HV.out ((((BW.out.setCell hM _).setCell hM _).setCell hM _).setCell hM _))
 have h4' : ¬ (4 : Int) < (n : Int) := by omega
 obtain ⟨NN, hNN⟩ : ∃ NN, NN = n * n := ⟨_, rfl⟩
 have HNN : Hid (NN = n * n) := hNN
 have hm0 : (n : Int) * (n : Int) = (NN : Int) := by rw [hNN]; simp
 have h16 : NN ≤ 16 := by rw [hNN]; exact Nat.le_trans (Nat.mul_le_mul h4 h4) (by omega)
 have h16' : (NN : Int) ≤ 16 := by omega
 have hn4 : (n : Int) ≤ 4 := by omega
 clear hNN
 go_enter Tryz.func9, Tryz.ntmps9
 go_upto_region 4 with fail
 have z1 : w.heap.size < (w.alloc (zQ3)).heap.size := by simp
 generalize w.alloc (zQ3) = W1 at *
 have F0 : Hid (NwF W1 n L H false false false false (.slice pa n pc) undef undef undef W1.drew) := ⟨(Below.refl _ _).drew, fun _ => 0, (fun e => by cases e), (fun e => by cases e), (fun e => by cases e), (fun e => by cases e)⟩
 refine wp_region_G (fun _ => True) (fun _ => false) (by kernel_rfl) ?_
 refine wpG_take 0 rfl trivial ?_
 apply Exists.intro
 refine ⟨fun wq hSw => ?_, ?_⟩
 ·(try dsimp only at hSw)
  go_simp
  try with_reducible rfl
 (try simp only [Act.put, List.setIfInBounds_toArray, List.set_cons_zero, List.set_cons_succ])
 refine wpG_take 1 rfl trivial ?_
 apply Exists.intro
 refine ⟨fun wq hSw => ?_, ?_⟩
 ·(try dsimp only at hSw)
  go_simp
  try with_reducible rfl
 (try simp only [Act.put, List.setIfInBounds_toArray, List.set_cons_zero, List.set_cons_succ])
 refine wpG_take 2 rfl trivial ?_
 apply Exists.intro
 refine ⟨fun wq hSw => ?_, ?_⟩
 ·(try dsimp only at hSw)
  go_simp
  try with_reducible rfl
 (try simp only [Act.put, List.setIfInBounds_toArray, List.set_cons_zero, List.set_cons_succ])
 refine wpG_take 3 rfl trivial ⟨.int .i64 (NN : Int), fun wq _ => ?_, ?_⟩
 ·go_simp
  rw [IntKind.wrap_i64]
  omega
 (try simp only [Act.put, List.setIfInBounds_toArray, List.set_cons_zero, List.set_cons_succ])
 refine wpG_take 5 rfl trivial ?_
 apply Exists.intro
 refine ⟨fun wq hSw => ?_, ?_⟩
 ·(try dsimp only at hSw)
  go_simp
  try with_reducible rfl
 (try simp only [Act.put, List.setIfInBounds_toArray, List.set_cons_zero, List.set_cons_succ])
 refine wpG_cast 5 #[true, true, true, true, false, true, false, false, false, false] (by kernel_rfl) (by kernel_rfl) ?_
 refine wpG_three (fun b c d e => #[true, true, true, true, b, true, c, e, d, false]) 4 6 8 7 (fun b c d x wq => ∃ v2 v3 v4, x = ⟨#[.slice pa n pc, undef, .pointer (some ⟨w.heap.size, 0, none⟩), .bool false, .int .i64 n, v4, .slice pa n pc, .int .i64 n, .int .i64 n, .bool false, undef, .slice pa n pc, .int .i64 n, .int .i64 n, .int .i64 NN, v2, .int .i64 n, v3, undef, undef, undef, undef, undef, undef, undef, undef, undef, undef, undef, undef, undef, undef, undef, undef, undef, undef, undef, undef], []⟩ ∧ NwF W1 n L H false b c d (.slice pa n pc) v2 v3 v4 wq) (fun d x wq => ∃ a2 c2 a3 c3 v4, x = ⟨#[.slice pa n pc, undef, .pointer (some ⟨w.heap.size, 0, none⟩), .bool false, .int .i64 n, v4, .slice pa n pc, .int .i64 n, .int .i64 n, .bool false, undef, .slice pa n pc, .int .i64 n, .int .i64 n, .int .i64 NN, .slice a2 (n * n) c2, .int .i64 n, .slice a3 n c3, .agg #[.slice pa n pc, .slice none 0 0, .slice a2 (n * n) c2, .slice a3 n c3], undef, undef, undef, undef, undef, undef, undef, undef, undef, undef, undef, undef, undef, undef, undef, undef, undef, undef, undef], []⟩ ∧ NwF W1 n L H false true true d (.slice pa n pc) (.slice a2 (n * n) c2) (.slice a3 n c3) v4 wq) (f0 := 1) ?_ (fun _ _ => rfl) (fun _ _ => rfl) (fun _ _ _ => rfl) (fun _ => rfl) rfl (by kernel_rfl) (fun d => by cases d <;> kernel_rfl) (fun d => by cases d <;> kernel_rfl) (by kernel_rfl) (fun _ _ _ _ h => h) ?_ ?_ ?_ ?_ ?_ ?_ 3 false false false _ _ rfl ⟨_, _, _, rfl, F0.out⟩
 ·intro b c d h
  cases b <;> cases c <;> cases d <;> first | exact absurd h (by decide) | kernel_rfl
 ·rintro c d x wq ⟨v2, v3, v4, rfl, F⟩
  have hmk := run_make_nils kndTT nilItem NN (by omega) wq
  refine wpOp_step rfl fun K hK => ?_
  go_simp
  refine hK _ _ ⟨fun _ _ => trivial, .slice (some ⟨wq.heap.size, 0, none⟩) NN NN, v3, v4, rfl, ?_⟩
  rw [HNN.out]
  exact F.two (by rw [← HNN.out]; omega)
 ·rintro b d x wq ⟨v2, v3, v4, rfl, F⟩
  have hmk := run_make_nils kndEE nilEvent n (by omega) wq
  refine wpOp_step rfl fun K hK => ?_
  go_simp
  exact hK _ _ ⟨fun _ _ => trivial, v2, .slice (some ⟨wq.heap.size, 0, none⟩) n n, v4, rfl, F.three (by omega)⟩
 ·rintro b c x wq ⟨v2, v3, v4, rfl, F⟩
  refine wpOp_step rfl fun K hK => ?_
  go_simp
  exact hK _ _ ⟨fun _ _ => trivial, v2, v3, .pointer (some ⟨wq.heap.size, 0, none⟩), rfl, F.four⟩
 ·rintro d x wq ⟨v2, v3, v4, rfl, F⟩
  obtain ⟨k, -, h2, h3, -⟩ := F.ow
  obtain ⟨a2, c2, rfl⟩ := ownsRow_slice (h2 rfl).row
  obtain ⟨a3, c3, rfl⟩ := ownsRow_slice (h3 rfl).row
  refine ⟨rfl, .agg #[.slice pa n pc, .slice none 0 0, .slice a2 (n * n) c2, .slice a3 n c3], fun wz => ?_, a2, c2, a3, c3, v4, rfl, F⟩
  go_simp
 ·rintro x wq ⟨a2, c2, a3, c3, v4, rfl, F⟩
  refine wpOp_step rfl fun K hK => ?_
  go_simp
  exact hK _ _ ⟨fun _ _ => trivial, a2, c2, a3, c3, .pointer (some ⟨wq.heap.size, 0, none⟩), rfl, F.four⟩
 rintro x w4 ⟨a2, c2, a3, c3, v4, rfl, F⟩
 clear F0
 obtain ⟨N, c, up, us, rfl, nl, ⟨g0, g1, g2, g3⟩, gf, ns⟩ := NwS.start F rfl (.inr trivial)
 refine wpG_one 9 rfl (by kernel_rfl) (fun K hK => ?_)
 go_simp
 refine hK.out _ _ (fun _ => trivial) ?_
 clear hK K
 (try simp only [List.setIfInBounds_toArray, List.set_cons_zero, List.set_cons_succ])
 refine wpG_done (by kernel_rfl) ?_ _
 have NS0 : Hid (NwS W1 N n L H false 0 ((((w4.setCell ⟨N, 0, none⟩ (.slice pa n pc)).setCell ⟨N, 1, none⟩ (.slice none 0 0)).setCell ⟨N, 2, none⟩ (.slice a2 (n * n) c2)).setCell ⟨N, 3, none⟩ (.slice a3 n c3)) (.slice pa n pc) (.slice none 0 0) (.slice a2 (n * n) c2) (.slice a3 n c3) c up us) := ns
 clear ns g0 g1 g2 g3 gf nl F
 go_upto_region 5 with fail
 generalize ((((w4.setCell ⟨N, 0, none⟩ (.slice pa n pc)).setCell ⟨N, 1, none⟩ (.slice none 0 0)).setCell ⟨N, 2, none⟩ (.slice a2 (n * n) c2)).setCell ⟨N, 3, none⟩ (.slice a3 n c3)) = W5 at *
 go_wp2_with fail
 go_loopw [21] (fun i wr => ∃ k : Nat, k ≤ n ∧ i = .int .i64 k ∧ Hid (∃ vs c up us, NwS W1 N n L H false k wr (.slice pa n pc) vs (.slice a2 (n * n) c2) (.slice a3 n c3) c up us)) (fun i _ => n - (intOf i).toNat)
 case atStart => exact ⟨0, Nat.zero_le _, rfl, _, _, _, _, NS0.out⟩
 case round =>
  clear NS0 c up us
  obtain ⟨k, hk, rfl, HK⟩ := hrel
  obtain ⟨vs, c, up, us, ns⟩ := HK.out
  have NS : Hid (NwS W1 N n L H false k wr (.slice pa n pc) vs (.slice a2 (n * n) c2) (.slice a3 n c3) c up us) := ns
  clear ns HK
  by_cases hlt : k < n
  ·have hlt' : (k : Int) < (n : Int) := by omega
   go_wp2_with fail
   obtain ⟨x0, x1, x2, x3⟩ := NS.out.bx
   have xf := NS.out.fr
   obtain ⟨sa, sc, rfl⟩ := ownsRow_slice NS.out.s.row
   have nl := NS.out.lt
   refine wp_region_G (fun w' => w'.cell? ⟨N, 1, none⟩ = some (.slice sa k sc)) (fun i => i == 6) (by kernel_rfl) ?_
   have hHeld : (fun w' : World => w'.cell? ⟨N, 1, none⟩ = some (.slice sa k sc)) wr.drew := x1
   refine wpGT_of [0, 1] ?_
   iterate 2 (refine wpGT_take rfl hHeld ?_; apply Exists.intro; refine ⟨fun wq hSw => ?_, ?_⟩; (· ((try dsimp only at hSw); go_simp; try with_reducible rfl)); (try simp only [Act.put, List.setIfInBounds_toArray, List.set_cons_zero, List.set_cons_succ]))
   refine wpGT_nil ?_
   refine wpG_one 2 rfl (by kernel_rfl) (fun K hK => ?_)
   refine stepR_call rfl 26 _ _ rfl #[] (by simp) (run_enter Tryz.func26 (by kernel_rfl) rfl) (implStateNew_any wr.drew) ?_
   rintro e w5 ⟨u5, rfl, o5, d5⟩
   refine ⟨_, rfl, ?_⟩
   obtain ⟨ra5, rc5, oa5, oc5, rfl, -, -⟩ := o5.read
   have q5 : Below wr.heap.size wr w5 := (Below.refl wr.heap.size wr).drew.trans d5
   have hc5 := (bcell q5).1
   refine hK.out _ _ (fun _ => (hc5 _ _ nl).trans x1) ?_
   clear hK K
   (try simp only [Act.put, List.setIfInBounds_toArray, List.set_cons_zero, List.set_cons_succ])
   refine wpG_one 3 rfl (by kernel_rfl) (fun K hK => ?_)
   go_simp
   have ba := below_allocL w5 (oQ2 0 ra5 4 rc5 oa5 0 oc5 0)
   refine hK.out _ _ (fun _ => ((ba.cell (p := ⟨N, 1, none⟩) (Nat.lt_of_lt_of_le nl q5.size)).trans ((hc5 _ _ nl).trans x1))) ?_
   clear ba
   clear hK K
   (try simp only [Act.put, List.setIfInBounds_toArray, List.set_cons_zero, List.set_cons_succ])
   refine wpG_one 4 rfl (by kernel_rfl) (fun K hK => ?_)
   refine stepR_append_val kndS w5 rfl rfl _ _ rfl 0 (.slice sa k sc) k _ rfl (NS.out.s.below q5).row #[.int .i64 0, .slice ra5 4 rc5, .slice oa5 0 oc5, .int .i64 0] rfl rfl (by intro u hu; simp at hu; rcases hu with rfl | rfl | rfl | rfl <;> rfl) (by omega) (Nat.zero_le _) ?_
   intro v6 w6 o6 g6 q6 n6
   obtain ⟨a6, c6, rfl⟩ := ownsRow_slice o6
   have gN : w6.heap[N]? = wr.heap[N]? := (g6.block N (Nat.lt_of_lt_of_le nl q5.size) fun e => by
    have := (NS.out.s.rb N e.symm).2
    rw [NS.out.cN] at this
    cases this).trans (q5.block N nl)
   have y1 := (World.cell?_of_block gN).trans x1
   have yf : ∀ j, w6.frozen? ⟨N, j, none⟩ = false := fun j => (World.frozen?_of_block gN).trans (xf j)
   have NS6 : Hid (NwS W1 N n L H false (k + 1) (w6.setCell ⟨N, 1, none⟩ (.slice a6 (k + 1) c6)) (.slice pa n pc) (.slice a6 (k + 1) c6) (.slice a2 (n * n) c2) (.slice a3 n c3) (rcol c wr.heap.size 2) up (fun j => if j = k then stV 0 ra5 4 rc5 oa5 0 oc5 0 else us j)) := NS.out.push q5 (o5.mono (by simp)) o6 g6 q6
   refine hK.out _ _ (fun _ => y1) ?_
   clear hHeld
   have hHeld : (fun w' : World => w'.cell? ⟨N, 1, none⟩ = some (.slice sa k sc)) w6 := y1
   clear o6 g6 q6 n6 gN
   clear hK K
   (try simp only [Act.put, List.setIfInBounds_toArray, List.set_cons_zero, List.set_cons_succ])
   refine wpG_take 5 rfl hHeld ?_
   apply Exists.intro
   refine ⟨fun wq hSw => ?_, ?_⟩
   ·(try dsimp only at hSw)
    go_simp
    try with_reducible rfl
   (try simp only [Act.put, List.setIfInBounds_toArray, List.set_cons_zero, List.set_cons_succ])
   refine wpG_one 6 rfl (by kernel_rfl) (fun K hK => ?_)
   have y2 := yf 1
   go_simp
   refine hK.out _ _ (fun h => ?_) ?_
   ·exact absurd h (by decide)
   clear hK K
   (try simp only [Act.put, List.setIfInBounds_toArray, List.set_cons_zero, List.set_cons_succ])
   refine wpG_done (by kernel_rfl) ?_ _
   clear x0 x1 x2 x3 xf y1 y2 yf hHeld o5 d5 q5 hc5
   go_wp2
   go_roundw
   case rel => exact ⟨k + 1, by omega, by go_num, _, _, _, _, NS6.out⟩
   case measure => simp [intOf]; omega
  ·have hkn : k = n := by omega
   have NS' := NS.out
   rw [hkn] at NS'
   obtain ⟨sa, sc, rfl⟩ := ownsRow_slice NS'.s.row
   have NE : Hid (NwS W1 N n L H false n wr (.slice pa n pc) (.slice sa n sc) (.slice a2 (n * n) c2) (.slice a3 n c3) c up us) := NS'
   clear NS NS' hkn
   have HG : Hid (∀ wx, Below wr.heap.size wr wx → Calls Tryz.prog 27 #[sysV pa n pc sa n sc a2 (n * n) c2 a3 n c3] wx fun e w' => e = .returned (.bool (nwY n L H).okB) ∧ Below wx.heap.size wx w') := fun wx hb => by
    have h := NE.out.below hb
    have hw := BW.out.trans (h.be.mono BW.out.size)
    exact implSysOk_any (nwX pa n pc A L C H (.slice sa n sc) (.slice a2 (n * n) c2) (.slice a3 n c3) us) wx (h.g (HR.out wx hw).1 (HR.out wx hw).2) (nwX_len h4 HL.out) (HV0.out wx hw)
   obtain ⟨x0, x1, x2, x3⟩ := NE.out.bx
   go_wp2_with fail
   refine (HG.out wr (Below.refl _ _)).mono ?_
   rintro e w6 ⟨rfl, q6⟩
   have NF : Hid (NwS W1 N n L H false n w6 (.slice pa n pc) (.slice sa n sc) (.slice a2 (n * n) c2) (.slice a3 n c3) c up us) := NE.out.below q6
   have hbe := NF.out.be
   have R6 : Hid (BoxC w6 w.heap.size (.slice none 0 0) (.slice none 0 0) (.slice none 0 0) (.slice none 0 0) ∧ ∀ j, w6.frozen? ⟨w.heap.size, j, none⟩ = false) := ⟨RB.out.1.below hbe, fun j => ((bcell hbe).2 _ j z1).trans (RB.out.2 j)⟩
   have B6 : Hid (Below w.heap.size w w6) := BW.out.trans (hbe.mono BW.out.size)
   clear q6 NE HG x0 x1 x2 x3 hbe
   obtain ⟨⟨r0, r1, r2, r3⟩, rf⟩ := R6.out
   rcases Bool.eq_false_or_eq_true (nwY n L H).okB with t | t
   case inr =>
    have HV : Hid (snB n L H = false) := by
     show snB n L H = false
     rw [snB, t, Bool.and_false]
    rw [t]
    clear t
    go_wp2
    exact bodyPost_ret (v := .tuple #[sysV none 0 0 none 0 0 none 0 0 none 0 0, .bool false]) (by simp [results, Tryz.results9, go_sem, r0, r1, r2, r3]) rfl (NwR.no HV.out ((((B6.out.setCell hM _).setCell hM _).setCell hM _).setCell hM _))
   have HV : Hid (snB n L H = true) := by
    show snB n L H = true
    rw [snB, t, decide_eq_true h4]
    rfl
   rw [t]
   clear t
   go_wp2_with fail
   refine (HP.out w6 B6.out).mono ?_
   rintro e w7 ⟨v7, u7, rfl, o7, q7⟩
   obtain ⟨a7, c7, rfl⟩ := ownsRow_slice o7.row
   have NG : Hid (NwS W1 N n L H true n (w7.setCell ⟨N, 0, none⟩ (.slice a7 n c7)) (.slice a7 n c7) (.slice sa n sc) (.slice a2 (n * n) c2) (.slice a3 n c3) (rcol c w6.heap.size 1) u7 us) := NF.out.progs o7 q7
   have N7 := NF.out.below q7
   obtain ⟨x0, -, -, -⟩ := N7.bx
   have xf := N7.fr
   go_upto_region 12 with fail
   clear o7 q7 N7 x0 xf r0 r1 r2 r3 rf
   generalize w7.setCell ⟨N, 0, none⟩ (.slice a7 n c7) = w8 at *
   have hbe := NG.out.be
   have R8 : Hid (BoxC w8 w.heap.size (.slice none 0 0) (.slice none 0 0) (.slice none 0 0) (.slice none 0 0) ∧ ∀ j, w8.frozen? ⟨w.heap.size, j, none⟩ = false) := ⟨RB.out.1.below hbe, fun j => ((bcell hbe).2 _ j z1).trans (RB.out.2 j)⟩
   have B8 : Hid (Below w.heap.size w w8) := BW.out.trans (hbe.mono BW.out.size)
   clear hbe
   obtain ⟨⟨r0, r1, r2, r3⟩, rf⟩ := R8.out
   obtain ⟨x0, x1, x2, x3⟩ := NG.out.bx
   go_wp2
   exact bodyPost_ret (v := .tuple #[sysV a7 n c7 sa n sc a2 (n * n) c2 a3 n c3, .bool true]) (by simp [results, Tryz.results9, go_sem, r0, r1, r2, r3]) rfl (NwR.yes HV.out (((NG.out.own1 rfl).out4 z1 _ _ _ _).base (Nat.le_of_lt z1) (by simp)) ((((B8.out.setCell hM _).setCell hM _).setCell hM _).setCell hM _))
theorem eqItemS_nil (w : World) : Calls Tryz.prog 72 #[.slice none 0 0, .slice none 0 0] w fun e w' => e = .returned (.bool true) ∧ Below w.heap.size w w' := by
 go_enter Tryz.func72, Tryz.ntmps72
 go_wp2_with fail
 go_loopw [5] (fun i wr => i = .int .i64 0 ∧ Below w.heap.size w wr) (fun _ _ => 0)
 case atStart => exact ⟨rfl, Below.refl _ _⟩
 case round =>
  obtain ⟨rfl, hbw⟩ := hrel
  go_wp2
  go_ret
  exact ⟨rfl, hbw⟩
theorem markItemS_nil (k : Int) (w : World) : Calls Tryz.prog 76 #[.slice none 0 0, .int .i64 k] w fun e w' => e = .returned (.int .i64 k) ∧ Below w.heap.size w w' := by
 go_enter Tryz.func76, Tryz.ntmps76
 go_wp2_with fail
 go_loopw [1, 5] (fun q i wr => i = .int .i64 0 ∧ q = .int .i64 k ∧ Below w.heap.size w wr) (fun _ _ _ => 0)
 case atStart => exact ⟨rfl, rfl, Below.refl _ _⟩
 case round =>
  obtain ⟨rfl, rfl, hbw⟩ := hrel
  go_wp2
  go_ret
  exact ⟨rfl, hbw⟩
theorem heldItemS_nil (k : Int) (w : World) : Calls Tryz.prog 80 #[.slice none 0 0, .int .i64 k] w fun e w' => e = .returned (.int .i64 k) ∧ Below w.heap.size w w' := by
 go_enter Tryz.func80, Tryz.ntmps80
 go_wp2_with fail
 go_loopw [1, 5] (fun q i wr => i = .int .i64 0 ∧ q = .int .i64 k ∧ Below w.heap.size w wr) (fun _ _ _ => 0)
 case atStart => exact ⟨rfl, rfl, Below.refl _ _⟩
 case round =>
  obtain ⟨rfl, rfl, hbw⟩ := hrel
  go_wp2
  go_ret
  exact ⟨rfl, hbw⟩
theorem eqItemSS_zero (v1 v2 : Value) (P1 P2 : Nat → Prop) (n : Nat) (w : World) (hn : n ≤ 1048576) (o1 : ZL 95 w P1 v1 n) (o2 : ZL 95 w P2 v2 n) :
  Calls Tryz.prog 30 #[v1, v2] w fun e w' => e = .returned (.bool true) ∧ Below w.heap.size w w' := by
 have hl' : (n : Int) ≤ 1048576 := by omega
 obtain ⟨a1, c1, rfl⟩ := ownsRow_slice o1.row
 obtain ⟨a2, c2, rfl⟩ := ownsRow_slice o2.row
 have O1 : Hid (ZL 95 w P1 (.slice a1 n c1) n) := o1
 have O2 : Hid (ZL 95 w P2 (.slice a2 n c2) n) := o2
 clear o1 o2
 go_enter Tryz.func30, Tryz.ntmps30
 go_wp2_with fail
 go_loopw [5] (fun i wr => ∃ k : Nat, k ≤ n ∧ i = .int .i64 k ∧ Below w.heap.size w wr) (fun i _ => n - (intOf i).toNat)
 case atStart => exact ⟨0, Nat.zero_le _, rfl, Below.refl _ _⟩
 case round =>
  obtain ⟨k, hk, rfl, hbw⟩ := hrel
  have hs := hbw.size
  by_cases hlt : k < n
  ·obtain ⟨g1, k1, e1, -, ck⟩ := (O1.out.below hbw).cell hlt
   obtain ⟨g2, k2, e2, -, dk⟩ := (O2.out.below hbw).cell hlt
   obtain rfl := slice_form e1
   obtain rfl := slice_form e2
   have hlt' : (k : Int) < (n : Int) := by omega
   clear e1 e2
   go_wp2_with fail
   first | (go_region_with (go_at_call 72; refine (eqItemS_nil wr.drew).mono ?_; rintro e w1 ⟨rfl, hq1⟩)) | fail
   all_goals
    go_wp2
    go_roundw
    case rel => exact ⟨k + 1, by omega, by go_num, hbw.drew.trans (hq1.mono hs)⟩
    case measure => simp [intOf]; omega
  ·go_wp2
   go_ret
   exact ⟨rfl, hbw⟩
theorem markItemSS_zero (v : Value) (P : Nat → Prop) (n : Nat) (k : Int) (w : World) (hn : n ≤ 1048576) (o : ZL 95 w P v n) :
  Calls Tryz.prog 35 #[v, .int .i64 k] w fun e w' => e = .returned (.int .i64 k) ∧ Below w.heap.size w w' := by
 have hl' : (n : Int) ≤ 1048576 := by omega
 obtain ⟨a1, c1, rfl⟩ := ownsRow_slice o.row
 have O : Hid (ZL 95 w P (.slice a1 n c1) n) := o
 clear o
 go_enter Tryz.func35, Tryz.ntmps35
 go_wp2_with fail
 go_loopw [1, 5] (fun q i wr => ∃ j : Nat, j ≤ n ∧ i = .int .i64 j ∧ q = .int .i64 k ∧ Below w.heap.size w wr) (fun _ i _ => n - (intOf i).toNat)
 case atStart => exact ⟨0, Nat.zero_le _, rfl, rfl, Below.refl _ _⟩
 case round =>
  obtain ⟨j, hj, rfl, rfl, hbw⟩ := hrel
  by_cases hlt : j < n
  ·obtain ⟨g1, k1, e1, -, ck⟩ := (O.out.below hbw).cell hlt
   obtain rfl := slice_form e1
   have hlt' : (j : Int) < (n : Int) := by omega
   clear e1
   go_wp2_with fail
   refine (markItemS_nil k wr).mono ?_
   rintro e w1 ⟨rfl, b1⟩
   have B1 : Hid (Below w.heap.size w w1) := hbw.trans (b1.mono hbw.size)
   clear b1 ck hbw
   go_wp2
   go_roundw
   case rel => exact ⟨j + 1, by omega, by go_num, rfl, B1.out⟩
   case measure => simp [intOf]; omega
  ·go_wp2
   go_ret
   exact ⟨rfl, hbw⟩
theorem heldItemSS_zero (v : Value) (P : Nat → Prop) (n : Nat) (k : Int) (w : World) (hn : n ≤ 1048576) (k0 : 0 ≤ k) (o : ZL 95 w P v n) :
  Calls Tryz.prog 39 #[v, .int .i64 k] w fun e w' => e = .returned (.int .i64 k) ∧ Below w.heap.size w w' := by
 have hl' : (n : Int) ≤ 1048576 := by omega
 have k0' : ¬ k < 0 := by omega
 obtain ⟨a1, c1, rfl⟩ := ownsRow_slice o.row
 have O : Hid (ZL 95 w P (.slice a1 n c1) n) := o
 clear o
 go_enter Tryz.func39, Tryz.ntmps39
 go_wp2_with fail
 go_loopw [1, 5] (fun q i wr => ∃ j : Nat, j ≤ n ∧ i = .int .i64 j ∧ q = .int .i64 k ∧ Below w.heap.size w wr) (fun _ i _ => n - (intOf i).toNat)
 case atStart => exact ⟨0, Nat.zero_le _, rfl, rfl, Below.refl _ _⟩
 case round =>
  obtain ⟨j, hj, rfl, rfl, hbw⟩ := hrel
  by_cases hlt : j < n
  ·obtain ⟨g1, k1, e1, -, ck⟩ := (O.out.below hbw).cell hlt
   obtain rfl := slice_form e1
   have hlt' : (j : Int) < (n : Int) := by omega
   clear e1
   go_wp2_with fail
   refine (heldItemS_nil k wr).mono ?_
   rintro e w1 ⟨rfl, b1⟩
   have B1 : Hid (Below w.heap.size w w1) := hbw.trans (b1.mono hbw.size)
   clear b1 ck hbw
   go_wp2
   go_roundw
   case rel => exact ⟨j + 1, by omega, by go_num, rfl, B1.out⟩
   case measure => simp [intOf]; omega
  ·go_wp2
   go_ret
   exact ⟨rfl, hbw⟩
theorem eqEventS_nil (w : World) : Calls Tryz.prog 73 #[.slice none 0 0, .slice none 0 0] w fun e w' => e = .returned (.bool true) ∧ Below w.heap.size w w' := by
 go_enter Tryz.func73, Tryz.ntmps73
 go_wp2_with fail
 go_loopw [5] (fun i wr => i = .int .i64 0 ∧ Below w.heap.size w wr) (fun _ _ => 0)
 case atStart => exact ⟨rfl, Below.refl _ _⟩
 case round =>
  obtain ⟨rfl, hbw⟩ := hrel
  go_wp2
  go_ret
  exact ⟨rfl, hbw⟩
theorem markEventS_nil (k : Int) (w : World) : Calls Tryz.prog 77 #[.slice none 0 0, .int .i64 k] w fun e w' => e = .returned (.int .i64 k) ∧ Below w.heap.size w w' := by
 go_enter Tryz.func77, Tryz.ntmps77
 go_wp2_with fail
 go_loopw [1, 5] (fun q i wr => i = .int .i64 0 ∧ q = .int .i64 k ∧ Below w.heap.size w wr) (fun _ _ _ => 0)
 case atStart => exact ⟨rfl, rfl, Below.refl _ _⟩
 case round =>
  obtain ⟨rfl, rfl, hbw⟩ := hrel
  go_wp2
  go_ret
  exact ⟨rfl, hbw⟩
theorem heldEventS_nil (k : Int) (w : World) : Calls Tryz.prog 81 #[.slice none 0 0, .int .i64 k] w fun e w' => e = .returned (.int .i64 k) ∧ Below w.heap.size w w' := by
 go_enter Tryz.func81, Tryz.ntmps81
 go_wp2_with fail
 go_loopw [1, 5] (fun q i wr => i = .int .i64 0 ∧ q = .int .i64 k ∧ Below w.heap.size w wr) (fun _ _ _ => 0)
 case atStart => exact ⟨rfl, rfl, Below.refl _ _⟩
 case round =>
  obtain ⟨rfl, rfl, hbw⟩ := hrel
  go_wp2
  go_ret
  exact ⟨rfl, hbw⟩
theorem eqEventSS_zero (v1 v2 : Value) (P1 P2 : Nat → Prop) (n : Nat) (w : World) (hn : n ≤ 1048576) (o1 : ZL 91 w P1 v1 n) (o2 : ZL 91 w P2 v2 n) :
  Calls Tryz.prog 31 #[v1, v2] w fun e w' => e = .returned (.bool true) ∧ Below w.heap.size w w' := by
 have hl' : (n : Int) ≤ 1048576 := by omega
 obtain ⟨a1, c1, rfl⟩ := ownsRow_slice o1.row
 obtain ⟨a2, c2, rfl⟩ := ownsRow_slice o2.row
 have O1 : Hid (ZL 91 w P1 (.slice a1 n c1) n) := o1
 have O2 : Hid (ZL 91 w P2 (.slice a2 n c2) n) := o2
 clear o1 o2
 go_enter Tryz.func31, Tryz.ntmps31
 go_wp2_with fail
 go_loopw [5] (fun i wr => ∃ k : Nat, k ≤ n ∧ i = .int .i64 k ∧ Below w.heap.size w wr) (fun i _ => n - (intOf i).toNat)
 case atStart => exact ⟨0, Nat.zero_le _, rfl, Below.refl _ _⟩
 case round =>
  obtain ⟨k, hk, rfl, hbw⟩ := hrel
  have hs := hbw.size
  by_cases hlt : k < n
  ·obtain ⟨g1, k1, e1, -, ck⟩ := (O1.out.below hbw).cell hlt
   obtain ⟨g2, k2, e2, -, dk⟩ := (O2.out.below hbw).cell hlt
   obtain rfl := slice_form e1
   obtain rfl := slice_form e2
   have hlt' : (k : Int) < (n : Int) := by omega
   clear e1 e2
   go_wp2_with fail
   first | (go_region_with (go_at_call 73; refine (eqEventS_nil wr.drew).mono ?_; rintro e w1 ⟨rfl, hq1⟩)) | fail
   all_goals
    go_wp2
    go_roundw
    case rel => exact ⟨k + 1, by omega, by go_num, hbw.drew.trans (hq1.mono hs)⟩
    case measure => simp [intOf]; omega
  ·go_wp2
   go_ret
   exact ⟨rfl, hbw⟩
theorem markEventSS_zero (v : Value) (P : Nat → Prop) (n : Nat) (k : Int) (w : World) (hn : n ≤ 1048576) (o : ZL 91 w P v n) :
  Calls Tryz.prog 36 #[v, .int .i64 k] w fun e w' => e = .returned (.int .i64 k) ∧ Below w.heap.size w w' := by
 have hl' : (n : Int) ≤ 1048576 := by omega
 obtain ⟨a1, c1, rfl⟩ := ownsRow_slice o.row
 have O : Hid (ZL 91 w P (.slice a1 n c1) n) := o
 clear o
 go_enter Tryz.func36, Tryz.ntmps36
 go_wp2_with fail
 go_loopw [1, 5] (fun q i wr => ∃ j : Nat, j ≤ n ∧ i = .int .i64 j ∧ q = .int .i64 k ∧ Below w.heap.size w wr) (fun _ i _ => n - (intOf i).toNat)
 case atStart => exact ⟨0, Nat.zero_le _, rfl, rfl, Below.refl _ _⟩
 case round =>
  obtain ⟨j, hj, rfl, rfl, hbw⟩ := hrel
  by_cases hlt : j < n
  ·obtain ⟨g1, k1, e1, -, ck⟩ := (O.out.below hbw).cell hlt
   obtain rfl := slice_form e1
   have hlt' : (j : Int) < (n : Int) := by omega
   clear e1
   go_wp2_with fail
   refine (markEventS_nil k wr).mono ?_
   rintro e w1 ⟨rfl, b1⟩
   have B1 : Hid (Below w.heap.size w w1) := hbw.trans (b1.mono hbw.size)
   clear b1 ck hbw
   go_wp2
   go_roundw
   case rel => exact ⟨j + 1, by omega, by go_num, rfl, B1.out⟩
   case measure => simp [intOf]; omega
  ·go_wp2
   go_ret
   exact ⟨rfl, hbw⟩
theorem heldEventSS_zero (v : Value) (P : Nat → Prop) (n : Nat) (k : Int) (w : World) (hn : n ≤ 1048576) (k0 : 0 ≤ k) (o : ZL 91 w P v n) :
  Calls Tryz.prog 40 #[v, .int .i64 k] w fun e w' => e = .returned (.int .i64 k) ∧ Below w.heap.size w w' := by
 have hl' : (n : Int) ≤ 1048576 := by omega
 have k0' : ¬ k < 0 := by omega
 obtain ⟨a1, c1, rfl⟩ := ownsRow_slice o.row
 have O : Hid (ZL 91 w P (.slice a1 n c1) n) := o
 clear o
 go_enter Tryz.func40, Tryz.ntmps40
 go_wp2_with fail
 go_loopw [1, 5] (fun q i wr => ∃ j : Nat, j ≤ n ∧ i = .int .i64 j ∧ q = .int .i64 k ∧ Below w.heap.size w wr) (fun _ i _ => n - (intOf i).toNat)
 case atStart => exact ⟨0, Nat.zero_le _, rfl, rfl, Below.refl _ _⟩
 case round =>
  obtain ⟨j, hj, rfl, rfl, hbw⟩ := hrel
  by_cases hlt : j < n
  ·obtain ⟨g1, k1, e1, -, ck⟩ := (O.out.below hbw).cell hlt
   obtain rfl := slice_form e1
   have hlt' : (j : Int) < (n : Int) := by omega
   clear e1
   go_wp2_with fail
   refine (heldEventS_nil k wr).mono ?_
   rintro e w1 ⟨rfl, b1⟩
   have B1 : Hid (Below w.heap.size w w1) := hbw.trans (b1.mono hbw.size)
   clear b1 ck hbw
   go_wp2
   go_roundw
   case rel => exact ⟨j + 1, by omega, by go_num, rfl, B1.out⟩
   case measure => simp [intOf]; omega
  ·go_wp2
   go_ret
   exact ⟨rfl, hbw⟩
structure OwnM (w : World) (c : Nat → Nat) (B n : Nat) (L : Nat → Nat) (H : Nat → Nat → I5) (S : Nat → S4) (vp vs vw vh : Value) (up us : Nat → Value) : Prop where
 p : LI w (Cl B c 1) vp n up L H
 s : LS w (Cl B c 2) vs n us S
 t : ZL 95 w (Cl B c 3) vw (n * n)
 h : ZL 91 w (Cl B c 4) vh n
def Own2 (w : World) (B T n : Nat) (L : Nat → Nat) (H : Nat → Nat → I5) (S : Nat → S4) (vp vs vw vh : Value) : Prop := ∃ c up us, OwnM w c B n L H S vp vs vw vh up us ∧ ∀ b, T ≤ b → c b = 0
section
variable {w w' : World} {B T n : Nat} {L : Nat → Nat} {H : Nat → Nat → I5} {S : Nat → S4} {vp vs vw vh : Value}
theorem Own1.two (o : Own1 w B T n L H vp vs vw vh) : Own2 w B T n L H (fun _ => newS) vp vs vw vh := by
 obtain ⟨c, up, us, o, h⟩ := o
 exact ⟨c, up, us, ⟨o.p, o.s, o.t, o.h⟩, h⟩
theorem Own2.below (o : Own2 w B T n L H S vp vs vw vh) (hb : Below w.heap.size w w') : Own2 w' B T n L H S vp vs vw vh := by
 obtain ⟨c, up, us, o, h⟩ := o
 exact ⟨c, up, us, ⟨o.p.below hb, o.s.below hb, o.t.below hb, o.h.below hb⟩, h⟩
theorem Own2.touch {P : Nat → Prop} (o : Own2 w B T n L H S vp vs vw vh) (ht : Touch P w w') (hp : ∀ b, P b → T ≤ b ∨ b < B) : Own2 w' B T n L H S vp vs vw vh := by
 obtain ⟨c, up, us, o, h⟩ := o
 have hk : ∀ i, i ≠ 0 → ∀ k, Cl B c i k → k < w.heap.size → w'.heap[k]? = w.heap[k]? := fun i hi k hk hl => ht.block k hl fun e => by
  rcases hp k e with h1 | h1
  ·exact hi (hk.2.symm.trans (h k h1))
  ·have := hk.1
   omega
 exact ⟨c, up, us, ⟨o.p.keep (hk 1 (by decide)), o.s.keep (hk 2 (by decide)), o.t.keep (hk 3 (by decide)), o.h.keep (hk 4 (by decide))⟩, h⟩
end
structure NwL (n : Nat) (L : Nat → Nat) : Prop where
 n4 : n ≤ 4
 l : ∀ i, i < n → L i ≤ 1048576
 s : sumL L n ≤ 1048576
theorem NwL.sums {n : Nat} {L : Nat → Nat} (h : NwL n L) (H : Nat → Nat → I5) : (nwY n L H).Sums := by
 have h4 := h.n4
 have h16 : n * n ≤ 16 := Nat.le_trans (Nat.mul_le_mul h4 h4) (by omega)
 have z : ∀ m, sumL (fun _ => 0) m = 0 := sumL_zero
 have z2 := sumL_bd (L := lenS (nwY n L H).sS) (M := 4) (n := n) fun i _ => Nat.le_refl _
 exact ⟨⟨by show n ≤ 1048576; omega, h.s⟩, ⟨by show n ≤ 1048576; omega, by show sumL (lenS (nwY n L H).sS) n ≤ 1048576; omega⟩, ⟨by show n * n ≤ 1048576; omega, by show sumL (fun _ => 0) (n * n) ≤ 1048576; rw [z]; omega⟩, ⟨by show n ≤ 1048576; omega, by show sumL (fun _ => 0) n ≤ 1048576; rw [z]; omega⟩⟩
theorem eqSys_new (n : Nat) (L : Nat → Nat) (H : Nat → Nat → I5) (S : Nat → S4) (B1 T1 B2 T2 : Nat) (vp vs vw vh xp xs xw xh : Value) (w : World) (hl : NwL n L) (hS : ∀ i, i < n → (S i).rs.length ≤ 1048576 ∧ (S i).os.length ≤ 1048576) (o1 : Own2 w B1 T1 n L H S vp vs vw vh) (o2 : Own2 w B2 T2 n L H S xp xs xw xh) :
  Calls Tryz.prog 10 #[.agg #[vp, vs, vw, vh], .agg #[xp, xs, xw, xh]] w fun e w' => e = .returned (.bool true) ∧ Below w.heap.size w w' := by
 obtain ⟨c, up, us, o1, -⟩ := o1
 obtain ⟨d, tp, ts, o2, -⟩ := o2
 obtain ⟨a1, c1, rfl⟩ := ownsRow_slice o1.p.row
 obtain ⟨a2, c2, rfl⟩ := ownsRow_slice o1.s.row
 obtain ⟨a3, c3, rfl⟩ := ownsRow_slice o1.t.row
 obtain ⟨a4, c4, rfl⟩ := ownsRow_slice o1.h.row
 obtain ⟨e1, d1, rfl⟩ := ownsRow_slice o2.p.row
 obtain ⟨e2, d2, rfl⟩ := ownsRow_slice o2.s.row
 obtain ⟨e3, d3, rfl⟩ := ownsRow_slice o2.t.row
 obtain ⟨e4, d4, rfl⟩ := ownsRow_slice o2.h.row
 have HL : Hid (NwL n L) := hl
 have HSS : Hid (∀ i, i < n → (S i).rs.length ≤ 1048576 ∧ (S i).os.length ≤ 1048576) := hS
 have HNN : Hid (n * n ≤ 1048576 ∧ n ≤ 1048576) := ⟨by have := Nat.mul_le_mul hl.n4 hl.n4; omega, by have := hl.n4; omega⟩
 have O1 : Hid (OwnM w c B1 n L H S (.slice a1 n c1) (.slice a2 n c2) (.slice a3 (n * n) c3) (.slice a4 n c4) up us) := o1
 have O2 : Hid (OwnM w d B2 n L H S (.slice e1 n d1) (.slice e2 n d2) (.slice e3 (n * n) d3) (.slice e4 n d4) tp ts) := o2
 have BW : Hid (Below w.heap.size w ((w.alloc (oQ4 a1 n c1 a2 n c2 a3 (n * n) c3 a4 n c4)).alloc (oQ4 e1 n d1 e2 n d2 e3 (n * n) d3 e4 n d4))) := (below_allocL _ _).trans ((below_allocL _ _).mono (by simp))
 have NA : Hid (BoxC ((w.alloc (oQ4 a1 n c1 a2 n c2 a3 (n * n) c3 a4 n c4)).alloc (oQ4 e1 n d1 e2 n d2 e3 (n * n) d3 e4 n d4)) w.heap.size (.slice a1 n c1) (.slice a2 n c2) (.slice a3 (n * n) c3) (.slice a4 n c4)) := (BoxC.new w _ _ _ _ _).below (below_allocL _ _)
 have NB : Hid (BoxC ((w.alloc (oQ4 a1 n c1 a2 n c2 a3 (n * n) c3 a4 n c4)).alloc (oQ4 e1 n d1 e2 n d2 e3 (n * n) d3 e4 n d4)) (w.heap.size + 1) (.slice e1 n d1) (.slice e2 n d2) (.slice e3 (n * n) d3) (.slice e4 n d4)) := ⟨new_cell _ _ _ 0 (by simp), new_cell _ _ _ 1 (by simp), new_cell _ _ _ 2 (by simp), new_cell _ _ _ 3 (by simp)⟩
 clear o1 o2 hl hS
 go_enter Tryz.func10, Tryz.ntmps10
 go_wp2_with fail
 generalize (w.alloc (oQ4 a1 n c1 a2 n c2 a3 (n * n) c3 a4 n c4)).alloc (oQ4 e1 n d1 e2 n d2 e3 (n * n) d3 e4 n d4) = wA at *
 refine (eqInsSS_own _ _ _ _ n up tp L H wA HNN.out.2 HL.out.l (O1.out.p.below BW.out) (O2.out.p.below BW.out)).mono ?_
 rintro e w1 ⟨rfl, b1⟩
 have F1 : Hid (Below w.heap.size w w1 ∧ BoxC w1 w.heap.size (.slice a1 n c1) (.slice a2 n c2) (.slice a3 (n * n) c3) (.slice a4 n c4) ∧ BoxC w1 (w.heap.size + 1) (.slice e1 n d1) (.slice e2 n d2) (.slice e3 (n * n) d3) (.slice e4 n d4)) := ⟨BW.out.trans (b1.mono BW.out.size), NA.out.below b1, NB.out.below b1⟩
 clear b1 BW NA NB
 obtain ⟨-, ⟨p0, p1, p2, p3⟩, ⟨q0, q1, q2, q3⟩⟩ := F1.out
 go_wp2_with fail
 clear p0 p1 p2 p3 q0 q1 q2 q3
 refine (eqStateS_own _ _ _ _ n us ts S w1 HNN.out.2 HSS.out (O1.out.s.below F1.out.1) (O2.out.s.below F1.out.1)).mono ?_
 rintro e w2 ⟨rfl, b2⟩
 have F2 : Hid (Below w.heap.size w w2 ∧ BoxC w2 w.heap.size (.slice a1 n c1) (.slice a2 n c2) (.slice a3 (n * n) c3) (.slice a4 n c4) ∧ BoxC w2 (w.heap.size + 1) (.slice e1 n d1) (.slice e2 n d2) (.slice e3 (n * n) d3) (.slice e4 n d4)) := ⟨F1.out.1.trans (b2.mono F1.out.1.size), F1.out.2.1.below b2, F1.out.2.2.below b2⟩
 clear b2 F1
 obtain ⟨-, ⟨p0, p1, p2, p3⟩, ⟨q0, q1, q2, q3⟩⟩ := F2.out
 go_wp2_with fail
 clear p0 p1 p2 p3 q0 q1 q2 q3
 refine (eqItemSS_zero _ _ _ _ (n * n) w2 HNN.out.1 (O1.out.t.below F2.out.1) (O2.out.t.below F2.out.1)).mono ?_
 rintro e w3 ⟨rfl, b3⟩
 have F3 : Hid (Below w.heap.size w w3 ∧ BoxC w3 w.heap.size (.slice a1 n c1) (.slice a2 n c2) (.slice a3 (n * n) c3) (.slice a4 n c4) ∧ BoxC w3 (w.heap.size + 1) (.slice e1 n d1) (.slice e2 n d2) (.slice e3 (n * n) d3) (.slice e4 n d4)) := ⟨F2.out.1.trans (b3.mono F2.out.1.size), F2.out.2.1.below b3, F2.out.2.2.below b3⟩
 clear b3 F2
 obtain ⟨-, ⟨p0, p1, p2, p3⟩, ⟨q0, q1, q2, q3⟩⟩ := F3.out
 go_wp2_with fail
 clear p0 p1 p2 p3 q0 q1 q2 q3
 refine (eqEventSS_zero _ _ _ _ n w3 HNN.out.2 (O1.out.h.below F3.out.1) (O2.out.h.below F3.out.1)).mono ?_
 rintro e w4 ⟨rfl, b4⟩
 have F4 : Hid (Below w.heap.size w w4) := F3.out.1.trans (b4.mono F3.out.1.size)
 clear b4 F3
 go_wp2
 go_ret
 exact ⟨rfl, F4.out⟩
theorem markSys_new (n : Nat) (L : Nat → Nat) (H : Nat → Nat → I5) (B T : Nat) (vp vs vw vh : Value) (w : World) (hn : NwL n L) (hB : B ≤ w.heap.size) (o : Own2 w B T n L H (fun _ => newS) vp vs vw vh) :
  Calls Tryz.prog 13 #[.agg #[vp, vs, vw, vh], .int .i64 1] w fun e w' => e = .returned (.int .i64 (mkZ3 (nwY n L H) 1)) ∧ Own2 w' B T n L (fun i => mkI (1 + 5 * (sumL L i : Nat))) (fun i => mkS (mkZ2 (nwY n L H) 1 + (2 * i + sumL (lenS (nwY n L H).sS) i : Nat)) newS) vp vs vw vh ∧ Touch (fun b => B ≤ b ∧ b < T) w w' := by
 have hS := hn.sums H
 obtain ⟨c, up, us, o, hT⟩ := o
 have HT : Hid (∀ b, T ≤ b → rcol c w.heap.size 0 b = 0) := fun b hb => by
  unfold rcol
  split
  ·exact hT b hb
  ·rfl
 have HC : Hid (∀ i, i ≠ 0 → ∀ b, Cl B (rcol c w.heap.size 0) i b → B ≤ b ∧ b < T) := fun i hi b hb => ⟨hb.1, by
  rcases Nat.lt_or_ge b T with h | h
  ·exact h
  ·exact absurd (hb.2.symm.trans (HT.out b h)) hi⟩
 obtain ⟨a1, c1, rfl⟩ := ownsRow_slice o.p.row
 obtain ⟨a2, c2, rfl⟩ := ownsRow_slice o.s.row
 obtain ⟨a3, c3, rfl⟩ := ownsRow_slice o.t.row
 obtain ⟨a4, c4, rfl⟩ := ownsRow_slice o.h.row
 have HS : Hid (nwY n L H).Sums := hS
 have HB : Hid (B ≤ w.heap.size) := hB
 have ba := below_allocL w (oQ4 a1 n c1 a2 n c2 a3 (n * n) c3 a4 n c4)
 have o0 : OwnM w (rcol c w.heap.size 0) B n L H (fun _ => newS) (.slice a1 n c1) (.slice a2 n c2) (.slice a3 (n * n) c3) (.slice a4 n c4) up us := ⟨o.p.mono fun _ h hl => h.old hl, o.s.mono fun _ h hl => h.old hl, o.t.mono fun _ h hl => h.old hl, o.h.mono fun _ h hl => h.old hl⟩
 have OA : Hid (OwnM (w.alloc (oQ4 a1 n c1 a2 n c2 a3 (n * n) c3 a4 n c4)) (rcol c w.heap.size 0) B n L H (fun _ => newS) (.slice a1 n c1) (.slice a2 n c2) (.slice a3 (n * n) c3) (.slice a4 n c4) up us) := ⟨o0.p.below ba, o0.s.below ba, o0.t.below ba, o0.h.below ba⟩
 have NA : Hid (BoxC (w.alloc (oQ4 a1 n c1 a2 n c2 a3 (n * n) c3 a4 n c4)) w.heap.size (.slice a1 n c1) (.slice a2 n c2) (.slice a3 (n * n) c3) (.slice a4 n c4)) := BoxC.new w _ _ _ _ _
 have BA : Hid (Touch (fun b => B ≤ b ∧ b < T) w (w.alloc (oQ4 a1 n c1 a2 n c2 a3 (n * n) c3 a4 n c4))) := Touch.of_below ba
 have HM : Hid (∀ i k, Cl B (rcol c w.heap.size 0) i k → i ≠ 0 → k < w.heap.size) := fun i k h hi => by
  rcases Nat.lt_or_ge k w.heap.size with h1 | h1
  ·exact h1
  ·exact absurd (h.2.symm.trans (rcol_new h1)) hi
 have hz := mkZ_bd hS
 have HZ : Hid ((0 ≤ mkZ2 (nwY n L H) 1 ∧ mkZ2 (nwY n L H) 1 ≤ 6000000) ∧ (0 ≤ mkZ3 (nwY n L H) 1 ∧ mkZ3 (nwY n L H) 1 ≤ 12000000) ∧ (0 ≤ mkZ4 (nwY n L H) 1 ∧ mkZ4 (nwY n L H) 1 ≤ 18000000) ∧ (0 ≤ mkZ5 (nwY n L H) 1 ∧ mkZ5 (nwY n L H) 1 ≤ 24000000)) := hz
 clear o o0 hS hB ba hz hT
 go_enter Tryz.func13, Tryz.ntmps13
 go_wp2_with fail
 generalize w.alloc (oQ4 a1 n c1 a2 n c2 a3 (n * n) c3 a4 n c4) = wA at *
 refine (markInsSS_own _ _ n up L H 1 wA HS.out.p.1 HS.out.p.2 (by omega) (by omega) OA.out.p).mono ?_
 rintro e w1 ⟨rfl, q1, t1⟩
 have K1 : Hid (∀ i, i ≠ 1 → ∀ k, Cl B (rcol c w.heap.size 0) i k → k < wA.heap.size → w1.heap[k]? = wA.heap[k]?) := fun i hi k hk hl => t1.block k hl fun h => hi (hk.2.symm.trans h.2)
 have F1 : Hid (LI w1 (Cl B (rcol c w.heap.size 0) 1) (.slice a1 n c1) n up L (fun i => mkI (1 + 5 * (sumL L i : Nat))) ∧ LS w1 (Cl B (rcol c w.heap.size 0) 2) (.slice a2 n c2) n us (fun _ => newS) ∧ ZL 95 w1 (Cl B (rcol c w.heap.size 0) 3) (.slice a3 (n * n) c3) (n * n) ∧ ZL 91 w1 (Cl B (rcol c w.heap.size 0) 4) (.slice a4 n c4) n) := ⟨q1, OA.out.s.keep (K1.out 2 (by decide)), OA.out.t.keep (K1.out 3 (by decide)), OA.out.h.keep (K1.out 4 (by decide))⟩
 have hm1 : w1.heap[w.heap.size]? = wA.heap[w.heap.size]? := t1.block _ (World.block_lt_of_cell? _ _ NA.out.1) fun h => Nat.lt_irrefl _ (HM.out 1 _ h (by decide))
 have G1 : Hid (Touch (fun b => B ≤ b ∧ b < T) w w1 ∧ BoxC w1 w.heap.size (.slice a1 n c1) (.slice a2 n c2) (.slice a3 (n * n) c3) (.slice a4 n c4)) := ⟨BA.out.trans (t1.mono (HC.out 1 (by decide))), ⟨(World.cell?_of_block hm1).trans NA.out.1, (World.cell?_of_block hm1).trans NA.out.2.1, (World.cell?_of_block hm1).trans NA.out.2.2.1, (World.cell?_of_block hm1).trans NA.out.2.2.2⟩⟩
 clear hm1
 rw [show (1 : Int) + 5 * (sumL L n : Nat) = mkZ2 (nwY n L H) 1 from rfl]
 clear t1 q1 OA NA BA K1
 obtain ⟨-, p0, p1, p2, p3⟩ := G1.out
 go_wp2_with fail
 clear p0 p1 p2 p3
 refine (markStateS_own _ _ n us (nwY n L H).sS (mkZ2 (nwY n L H) 1) w1 HS.out.s.1 HS.out.s.2 HZ.out.1.1 (by have := HZ.out; omega) F1.out.2.1).mono ?_
 rintro e w2 ⟨rfl, ⟨ts, q2⟩, t2⟩
 have K2 : Hid (∀ i, i ≠ 2 → ∀ k, Cl B (rcol c w.heap.size 0) i k → k < w1.heap.size → w2.heap[k]? = w1.heap[k]?) := fun i hi k hk hl => t2.block k hl fun h => hi (hk.2.symm.trans h.2)
 have F2 : Hid (LI w2 (Cl B (rcol c w.heap.size 0) 1) (.slice a1 n c1) n up L (fun i => mkI (1 + 5 * (sumL L i : Nat))) ∧ LS w2 (Cl B (rcol c w.heap.size 0) 2) (.slice a2 n c2) n ts (fun i => mkS (mkZ2 (nwY n L H) 1 + (2 * i + sumL (lenS (nwY n L H).sS) i : Nat)) newS) ∧ ZL 95 w2 (Cl B (rcol c w.heap.size 0) 3) (.slice a3 (n * n) c3) (n * n) ∧ ZL 91 w2 (Cl B (rcol c w.heap.size 0) 4) (.slice a4 n c4) n) := ⟨F1.out.1.keep (K2.out 1 (by decide)), q2, F1.out.2.2.1.keep (K2.out 3 (by decide)), F1.out.2.2.2.keep (K2.out 4 (by decide))⟩
 have hm2 : w2.heap[w.heap.size]? = w1.heap[w.heap.size]? := t2.block _ (World.block_lt_of_cell? _ _ G1.out.2.1) fun h => Nat.lt_irrefl _ (HM.out 2 _ h (by decide))
 have G2 : Hid (Touch (fun b => B ≤ b ∧ b < T) w w2 ∧ BoxC w2 w.heap.size (.slice a1 n c1) (.slice a2 n c2) (.slice a3 (n * n) c3) (.slice a4 n c4)) := ⟨G1.out.1.trans (t2.mono (HC.out 2 (by decide))), ⟨(World.cell?_of_block hm2).trans G1.out.2.1, (World.cell?_of_block hm2).trans G1.out.2.2.1, (World.cell?_of_block hm2).trans G1.out.2.2.2.1, (World.cell?_of_block hm2).trans G1.out.2.2.2.2⟩⟩
 clear hm2
 rw [show mkZ2 (nwY n L H) 1 + (2 * n + sumL (lenS (nwY n L H).sS) n : Nat) = mkZ3 (nwY n L H) 1 from rfl]
 clear t2 q2 F1 G1 K2
 obtain ⟨-, p0, p1, p2, p3⟩ := G2.out
 go_wp2_with fail
 clear p0 p1 p2 p3
 refine (markItemSS_zero _ _ (n * n) (mkZ3 (nwY n L H) 1) w2 HS.out.w.1 F2.out.2.2.1).mono ?_
 rintro e w3 ⟨rfl, b3⟩
 have G3 : Hid (Touch (fun b => B ≤ b ∧ b < T) w w3 ∧ BoxC w3 w.heap.size (.slice a1 n c1) (.slice a2 n c2) (.slice a3 (n * n) c3) (.slice a4 n c4)) := ⟨G2.out.1.trans (Touch.of_below b3), G2.out.2.below b3⟩
 have F3 : Hid (LI w3 (Cl B (rcol c w.heap.size 0) 1) (.slice a1 n c1) n up L (fun i => mkI (1 + 5 * (sumL L i : Nat))) ∧ LS w3 (Cl B (rcol c w.heap.size 0) 2) (.slice a2 n c2) n ts (fun i => mkS (mkZ2 (nwY n L H) 1 + (2 * i + sumL (lenS (nwY n L H).sS) i : Nat)) newS) ∧ ZL 95 w3 (Cl B (rcol c w.heap.size 0) 3) (.slice a3 (n * n) c3) (n * n) ∧ ZL 91 w3 (Cl B (rcol c w.heap.size 0) 4) (.slice a4 n c4) n) := ⟨F2.out.1.below b3, F2.out.2.1.below b3, F2.out.2.2.1.below b3, F2.out.2.2.2.below b3⟩
 clear b3 F2 G2
 obtain ⟨-, p0, p1, p2, p3⟩ := G3.out
 go_wp2_with fail
 clear p0 p1 p2 p3
 refine (markEventSS_zero _ _ n (mkZ3 (nwY n L H) 1) w3 HS.out.h.1 F3.out.2.2.2).mono ?_
 rintro e w4 ⟨rfl, b4⟩
 have G4 : Hid (Touch (fun b => B ≤ b ∧ b < T) w w4) := G3.out.1.trans (Touch.of_below b4)
 have F4 : Hid (Own2 w4 B T n L (fun i => mkI (1 + 5 * (sumL L i : Nat))) (fun i => mkS (mkZ2 (nwY n L H) 1 + (2 * i + sumL (lenS (nwY n L H).sS) i : Nat)) newS) (.slice a1 n c1) (.slice a2 n c2) (.slice a3 (n * n) c3) (.slice a4 n c4)) := ⟨_, up, ts, ⟨F3.out.1.below b4, F3.out.2.1.below b4, F3.out.2.2.1.below b4, F3.out.2.2.2.below b4⟩, HT.out⟩
 clear b4 F3 G3
 go_wp2
 go_ret
 exact ⟨rfl, F4.out, G4.out⟩
theorem heldSys_new (n : Nat) (L : Nat → Nat) (H : Nat → Nat → I5) (B T : Nat) (vp vs vw vh : Value) (w : World) (hn : NwL n L) (o : Own2 w B T n L (fun i => mkI (1 + 5 * (sumL L i : Nat))) (fun i => mkS (mkZ2 (nwY n L H) 1 + (2 * i + sumL (lenS (nwY n L H).sS) i : Nat)) newS) vp vs vw vh) :
  Calls Tryz.prog 14 #[.agg #[vp, vs, vw, vh], .int .i64 1] w fun e w' => e = .returned (.int .i64 (mkZ3 (nwY n L H) 1)) ∧ Below w.heap.size w w' := by
 have hS := hn.sums H
 obtain ⟨c, up, us, o, -⟩ := o
 obtain ⟨a1, c1, rfl⟩ := ownsRow_slice o.p.row
 obtain ⟨a2, c2, rfl⟩ := ownsRow_slice o.s.row
 obtain ⟨a3, c3, rfl⟩ := ownsRow_slice o.t.row
 obtain ⟨a4, c4, rfl⟩ := ownsRow_slice o.h.row
 have HS : Hid (nwY n L H).Sums := hS
 have O : Hid (LI w (Cl B c 1) (.slice a1 n c1) n up L (fun i => mkI (1 + 5 * (sumL L i : Nat))) ∧ LS w (Cl B c 2) (.slice a2 n c2) n us (fun i => mkS (mkZ2 (nwY n L H) 1 + (2 * i + sumL (lenS (nwY n L H).sS) i : Nat)) newS) ∧ ZL 95 w (Cl B c 3) (.slice a3 (n * n) c3) (n * n) ∧ ZL 91 w (Cl B c 4) (.slice a4 n c4) n) := ⟨o.p, o.s, o.t, o.h⟩
 have BA : Hid (Below w.heap.size w (w.alloc (oQ4 a1 n c1 a2 n c2 a3 (n * n) c3 a4 n c4))) := below_allocL _ _
 have NA : Hid (BoxC (w.alloc (oQ4 a1 n c1 a2 n c2 a3 (n * n) c3 a4 n c4)) w.heap.size (.slice a1 n c1) (.slice a2 n c2) (.slice a3 (n * n) c3) (.slice a4 n c4)) := BoxC.new w _ _ _ _ _
 have hz := mkZ_bd hS
 have HZ : Hid ((0 ≤ mkZ2 (nwY n L H) 1 ∧ mkZ2 (nwY n L H) 1 ≤ 6000000) ∧ (0 ≤ mkZ3 (nwY n L H) 1 ∧ mkZ3 (nwY n L H) 1 ≤ 12000000) ∧ (0 ≤ mkZ4 (nwY n L H) 1 ∧ mkZ4 (nwY n L H) 1 ≤ 18000000) ∧ (0 ≤ mkZ5 (nwY n L H) 1 ∧ mkZ5 (nwY n L H) 1 ≤ 24000000)) := hz
 have z2 : ¬ mkZ2 (nwY n L H) 1 < 0 := by omega
 have z3 : ¬ mkZ3 (nwY n L H) 1 < 0 := by omega
 have z4 : ¬ mkZ4 (nwY n L H) 1 < 0 := by omega
 have z5 : ¬ mkZ5 (nwY n L H) 1 < 0 := by omega
 clear o hS hz
 skip
 go_enter Tryz.func14, Tryz.ntmps14
 go_wp2_with fail
 generalize w.alloc (oQ4 a1 n c1 a2 n c2 a3 (n * n) c3 a4 n c4) = wA at *
 refine (heldInsSS_own _ _ n up L 1 wA HS.out.p.1 HS.out.p.2 (by omega) (by omega) (O.out.1.below BA.out)).mono ?_
 rintro e w1 ⟨rfl, b1⟩
 have F1 : Hid (Below w.heap.size w w1 ∧ BoxC w1 w.heap.size (.slice a1 n c1) (.slice a2 n c2) (.slice a3 (n * n) c3) (.slice a4 n c4)) := ⟨BA.out.trans (b1.mono BA.out.size), NA.out.below b1⟩
 rw [show (1 : Int) + 5 * (sumL L n : Nat) = mkZ2 (nwY n L H) 1 from rfl]
 clear b1 BA NA
 obtain ⟨-, p0, p1, p2, p3⟩ := F1.out
 go_wp2_with fail
 clear p0 p1 p2 p3
 refine (heldStateS_own _ _ n us (nwY n L H).sS (mkZ2 (nwY n L H) 1) w1 HS.out.s.1 HS.out.s.2 HZ.out.1.1 (by have := HZ.out; omega) (O.out.2.1.below F1.out.1)).mono ?_
 rintro e w2 ⟨rfl, b2⟩
 have F2 : Hid (Below w.heap.size w w2 ∧ BoxC w2 w.heap.size (.slice a1 n c1) (.slice a2 n c2) (.slice a3 (n * n) c3) (.slice a4 n c4)) := ⟨F1.out.1.trans (b2.mono F1.out.1.size), F1.out.2.below b2⟩
 rw [show mkZ2 (nwY n L H) 1 + (2 * n + sumL (lenS (nwY n L H).sS) n : Nat) = mkZ3 (nwY n L H) 1 from rfl]
 clear b2 F1
 obtain ⟨-, p0, p1, p2, p3⟩ := F2.out
 go_wp2_with fail
 clear p0 p1 p2 p3
 refine (heldItemSS_zero _ _ (n * n) (mkZ3 (nwY n L H) 1) w2 HS.out.w.1 HZ.out.2.1.1 (O.out.2.2.1.below F2.out.1)).mono ?_
 rintro e w3 ⟨rfl, b3⟩
 have F3 : Hid (Below w.heap.size w w3 ∧ BoxC w3 w.heap.size (.slice a1 n c1) (.slice a2 n c2) (.slice a3 (n * n) c3) (.slice a4 n c4)) := ⟨F2.out.1.trans (b3.mono F2.out.1.size), F2.out.2.below b3⟩
 clear b3 F2
 obtain ⟨-, p0, p1, p2, p3⟩ := F3.out
 go_wp2_with fail
 clear p0 p1 p2 p3
 refine (heldEventSS_zero _ _ n (mkZ3 (nwY n L H) 1) w3 HS.out.h.1 HZ.out.2.1.1 (O.out.2.2.2.below F3.out.1)).mono ?_
 rintro e w4 ⟨rfl, b4⟩
 have F4 : Hid (Below w.heap.size w w4) := F3.out.1.trans (b4.mono F3.out.1.size)
 clear b4 F3
 go_wp2
 go_ret
 exact ⟨rfl, F4.out⟩
theorem BoxC.blkF {w w' : World} {N : Nat} {p vr vo code : Value} (h : BoxC w N p vr vo code) (hb : w'.heap[N]? = w.heap[N]?) : BoxC w' N p vr vo code := by
 obtain ⟨h0, h1, h2, h3⟩ := h
 exact ⟨(World.cell?_of_block hb).trans h0, (World.cell?_of_block hb).trans h1, (World.cell?_of_block hb).trans h2, (World.cell?_of_block hb).trans h3⟩
theorem BoxC.ltF {w : World} {N : Nat} {p vr vo code : Value} (h : BoxC w N p vr vo code) : N < w.heap.size := World.block_lt_of_cell? w _ h.1
theorem BoxC.touch {w w' : World} {N : Nat} {p vr vo code : Value} {P : Nat → Prop} (h : BoxC w N p vr vo code) (t : Touch P w w') (hp : ¬ P N) : BoxC w' N p vr vo code := h.blkF (t.block N h.ltF hp)
structure StF (W : World) (x : SysIn) (Y : Sy) (x3 : SysIn) (N1 T8 lo T10 B4 T11 : Nat) (a1 a2 a3 a4 g1 g2 g3 g4 : Value) (w : World) : Prop where
 px : Px W x w
 o2 : Own0 w N1 T8 Y a1 a2 a3 a4
 b8 : BoxC w T8 a1 a2 a3 a4
 s3 : IsSys w lo T10 x x3.v
 b10 : BoxC w T10 (.slice x3.pa x3.pn x3.pc) (.slice x3.sa x3.sn x3.sc) (.slice x3.wa x3.wn x3.wc) (.slice x3.ha x3.hn x3.hc)
 o4 : Own0 w B4 T11 Y g1 g2 g3 g4
 b11 : BoxC w T11 g1 g2 g3 g4
structure StG (W : World) (x : SysIn) (Y Z : Sy) (N1 T8 B4 T11 : Nat) (a1 a2 a3 a4 g1 g2 g3 g4 : Value) (w : World) : Prop where
 px : Px W x w
 o2 : Own0 w N1 T8 Y a1 a2 a3 a4
 b8 : BoxC w T8 a1 a2 a3 a4
 o4 : Own0 w B4 T11 Z g1 g2 g3 g4
 b11 : BoxC w T11 g1 g2 g3 g4
section
variable {W : World} {x : SysIn} {Y Z : Sy} {x3 : SysIn} {N1 T8 lo T10 B4 T11 : Nat} {a1 a2 a3 a4 g1 g2 g3 g4 : Value} {w w' : World}
end
structure NnF (W : World) (n m : Nat) (L : Nat → Nat) (H : Nat → Nat → I5) (bs : Nat → Nat) (N1 T8 D T10 B4 T11 : Nat) (a1 a2 a3 a4 g1 g2 g3 g4 : Value) (w : World) : Prop where
 be : Below W.heap.size W w
 o2 : Own2 w N1 T8 m L H (fun _ => newS) a1 a2 a3 a4
 b8 : BoxC w T8 a1 a2 a3 a4
 s3 : OutIns w D T10 n L bs H
 o4 : Own2 w B4 T11 m L H (fun _ => newS) g1 g2 g3 g4
 b11 : BoxC w T11 g1 g2 g3 g4
structure NnG (W : World) (m : Nat) (L : Nat → Nat) (H H' : Nat → Nat → I5) (S' : Nat → S4) (N1 T8 B4 T11 : Nat) (a1 a2 a3 a4 g1 g2 g3 g4 : Value) (w : World) : Prop where
 be : Below W.heap.size W w
 o2 : Own2 w N1 T8 m L H (fun _ => newS) a1 a2 a3 a4
 b8 : BoxC w T8 a1 a2 a3 a4
 o4 : Own2 w B4 T11 m L H' S' g1 g2 g3 g4
 b11 : BoxC w T11 g1 g2 g3 g4
section
variable {W : World} {n m : Nat} {L : Nat → Nat} {H H' : Nat → Nat → I5} {S' : Nat → S4} {bs : Nat → Nat} {N1 T8 D T10 B4 T11 : Nat} {a1 a2 a3 a4 g1 g2 g3 g4 : Value} {w w' : World}
theorem NnF.below (h : NnF W n m L H bs N1 T8 D T10 B4 T11 a1 a2 a3 a4 g1 g2 g3 g4 w) (hW : W.heap.size ≤ w.heap.size) (hb : Below w.heap.size w w') : NnF W n m L H bs N1 T8 D T10 B4 T11 a1 a2 a3 a4 g1 g2 g3 g4 w' :=
 ⟨h.be.trans (hb.mono hW), h.o2.below hb, h.b8.below hb, h.s3.below hb h.s3.le, h.o4.below hb, h.b11.below hb⟩
theorem NnG.below (h : NnG W m L H H' S' N1 T8 B4 T11 a1 a2 a3 a4 g1 g2 g3 g4 w) (hb : Below w.heap.size w w') : NnG W m L H H' S' N1 T8 B4 T11 a1 a2 a3 a4 g1 g2 g3 g4 w' :=
 ⟨h.be.trans (hb.mono h.be.size), h.o2.below hb, h.b8.below hb, h.o4.below hb, h.b11.below hb⟩
theorem NnF.mark (h : NnF W n m L H bs N1 T8 D T10 B4 T11 a1 a2 a3 a4 g1 g2 g3 g4 w) (t : Touch (fun b => D ≤ b ∧ b < T10) w w') (h1 : W.heap.size ≤ D) (h2 : T8 < D) (h3 : T10 ≤ B4) (h4 : B4 ≤ T11) : NnG W m L H H (fun _ => newS) N1 T8 B4 T11 a1 a2 a3 a4 g1 g2 g3 g4 w' :=
 ⟨h.be.trans (t.below h.be.size fun b hb => by omega), h.o2.touch t fun b hb => by omega, h.b8.touch t fun hb => by omega, h.o4.touch t fun b hb => by omega, h.b11.touch t fun hb => by omega⟩
theorem NnG.mark (h : NnG W m L H H' S' N1 T8 B4 T11 a1 a2 a3 a4 g1 g2 g3 g4 w) {H2 : Nat → Nat → I5} {S2 : Nat → S4} (t : Touch (fun b => B4 ≤ b ∧ b < T11) w w') (o : Own2 w' B4 T11 m L H2 S2 g1 g2 g3 g4) (h1 : W.heap.size ≤ B4) (h2 : T8 < B4) : NnG W m L H H2 S2 N1 T8 B4 T11 a1 a2 a3 a4 g1 g2 g3 g4 w' :=
 ⟨h.be.trans (t.below h.be.size fun b hb => by omega), h.o2.touch t fun b hb => by omega, h.b8.touch t fun hb => by omega, o, h.b11.touch t fun hb => by omega⟩
end
theorem nw_small {n m : Nat} {L : Nat → Nat} {H : Nat → Nat → I5} (hm : nwN n L H = m) (hs : n + sumL L n ≤ 1048576) : NwL m L := by
 subst hm
 unfold nwN
 split
 ·rename_i h
  rw [snB, Bool.and_eq_true, decide_eq_true_eq] at h
  exact ⟨h.1, fun i hi => by have := sum_le (show sumL L n ≤ 1048576 by omega) i hi; exact this, by omega⟩
 ·exact ⟨by omega, fun i hi => by omega, by simp [sumL]⟩
theorem newS_lens (i : Nat) : ((fun _ => newS : Nat → S4) i).rs.length ≤ 1048576 ∧ ((fun _ => newS : Nat → S4) i).os.length ≤ 1048576 := by
 show 4 ≤ 1048576 ∧ 0 ≤ 1048576
 omega
theorem sysNewLaw_small (a0 : Option Addr) (n cap : Nat) (aa : Nat → Option Addr) (L cs : Nat → Nat) (H : Nat → Nat → I5) (W : World) (hs : n + sumL L n ≤ 1048576) (hA : AllIns W a0 n aa L cs H) (hV : W.cell? ⟨0, 0, none⟩ = some (.iface 236 (.agg #[.pointer (some ⟨1, 185, none⟩)]))) :
  Calls Tryz.prog 3 #[.slice a0 n cap] W fun e w' => e = .returned (.bool true) ∧ Below W.heap.size W w' := by
 have HS : Hid (n + sumL L n ≤ 1048576) := hs
 have HA : Hid (AllIns W a0 n aa L cs H) := hA
 have HV : Hid (∀ wx, Below W.heap.size W wx → wx.cell? ⟨0, 0, none⟩ = some (.iface 236 (.agg #[.pointer (some ⟨1, 185, none⟩)]))) := fun wx hb => (hb.cell (p := ⟨0, 0, none⟩) (World.block_lt_of_cell? W _ hV)).trans hV
 have hn : n ≤ 1048576 := by omega
 have HLL : Hid (∀ i, i < n → L i ≤ 1048576) := fun i hi => by have := sum_le (show sumL L n ≤ 1048576 by omega) i hi; exact this
 have hsz : ¬ (1048576 - (n : Int) - (sumL L n : Nat) < 0) := by omega
 obtain ⟨m, hm⟩ : ∃ m, nwN n L H = m := ⟨_, rfl⟩
 obtain ⟨C, hC⟩ : ∃ C, snB n L H = C := ⟨_, rfl⟩
 have HMC : Hid (nwN n L H = m ∧ snB n L H = C) := ⟨hm, hC⟩
 have HNL : Hid (NwL m L) := nw_small hm hs
 have HSQ : Hid ((n : Int) + (sumL L n : Nat) ≤ 1048576) := by show (n : Int) + (sumL L n : Nat) ≤ 1048576; omega
 have HSP : Hid (∀ wx, Below W.heap.size W wx → ∀ (D hi : Nat) (bs : Nat → Nat), OutIns wx D hi n L bs H → Calls Tryz.prog 7 #[.slice (some ⟨D, 0, none⟩) n n] wx (NwR wx n L H)) := fun wx hb D hi bs o => by
  have hlt : D < wx.heap.size := Nat.lt_of_lt_of_le o.lt o.le
  exact specSysNew_any (some ⟨D, 0, none⟩) n n (fun i => some ⟨bs i, 0, none⟩) L L H wx hn HLL.out (.inr ⟨D, 0, rfl, hlt, fun i hi => by rw [Nat.zero_add]; exact o.cel i hi⟩) fun i hi => srcI (Nat.lt_of_lt_of_le (o.bd i hi).2 o.le) (o.row i hi)
 have HIM : Hid (∀ wx, Below W.heap.size W wx → ∀ (D hi : Nat) (bs : Nat → Nat), OutIns wx D hi n L bs H → Calls Tryz.prog 9 #[.slice (some ⟨D, 0, none⟩) n n] wx (NwR wx n L H)) := fun wx hb D hi bs o => by
  have hlt : D < wx.heap.size := Nat.lt_of_lt_of_le o.lt o.le
  exact implSysNew_any (some ⟨D, 0, none⟩) n n (fun i => some ⟨bs i, 0, none⟩) L L H wx hn HLL.out (.inr ⟨D, 0, rfl, hlt, fun i hi => by rw [Nat.zero_add]; exact o.cel i hi⟩) (fun i hi => ⟨bs i, rfl, Nat.lt_of_lt_of_le (o.bd i hi).2 o.le, o.row i hi⟩) (HV.out wx hb)
 have HSP' : Hid (∀ wx, Below W.heap.size W wx → ∀ (D hi : Nat) (bs : Nat → Nat), OutIns wx D hi n L bs H → Calls Tryz.prog 7 #[.slice (some ⟨D, 0, none⟩) n n] wx fun e w' => ∃ pa pc sa sc wa wc ha hc, e = .returned (.tuple #[sysV pa m pc sa m sc wa (m * m) wc ha m hc, .bool C]) ∧ Own2 w' wx.heap.size w'.heap.size m L H (fun _ => newS) (.slice pa m pc) (.slice sa m sc) (.slice wa (m * m) wc) (.slice ha m hc) ∧ Below wx.heap.size wx w') := fun wx hb D hi bs o => (HSP.out wx hb D hi bs o).mono fun e w' ⟨pa, pc, sa, sc, wa, wc, ha, hc, h1, h2, h3⟩ => by
  rw [HMC.out.1] at h1 h2
  rw [HMC.out.2] at h1
  exact ⟨pa, pc, sa, sc, wa, wc, ha, hc, h1, h2.two, h3⟩
 have HIM' : Hid (∀ wx, Below W.heap.size W wx → ∀ (D hi : Nat) (bs : Nat → Nat), OutIns wx D hi n L bs H → Calls Tryz.prog 9 #[.slice (some ⟨D, 0, none⟩) n n] wx fun e w' => ∃ pa pc sa sc wa wc ha hc, e = .returned (.tuple #[sysV pa m pc sa m sc wa (m * m) wc ha m hc, .bool C]) ∧ Own2 w' wx.heap.size w'.heap.size m L H (fun _ => newS) (.slice pa m pc) (.slice sa m sc) (.slice wa (m * m) wc) (.slice ha m hc) ∧ Below wx.heap.size wx w') := fun wx hb D hi bs o => (HIM.out wx hb D hi bs o).mono fun e w' ⟨pa, pc, sa, sc, wa, wc, ha, hc, h1, h2, h3⟩ => by
  rw [HMC.out.1] at h1 h2
  rw [HMC.out.2] at h1
  exact ⟨pa, pc, sa, sc, wa, wc, ha, hc, h1, h2.two, h3⟩
 clear hs hA hV hm hC HSP HIM HMC
 go_enter Tryz.func3, Tryz.ntmps3
 go_wp2_with fail
 refine (szInsSS_small a0 n cap aa L cs 1048576 W HA.out.row HSQ.out (Int.le_refl _)).mono ?_
 rintro e w0 ⟨rfl, rfl⟩
 go_wp2_with fail
 refine (toInsSS_any a0 n cap aa L cs H w0 w0 hn HA.out (Below.refl _ _)).mono ?_
 rintro e w1 ⟨rfl, ⟨bs1, o1⟩, b1⟩
 have O1 : Hid (OutIns w1 w0.heap.size w1.heap.size n L bs1 H ∧ Below w0.heap.size w0 w1) := ⟨o1, b1⟩
 clear b1 o1
 go_wp2_with fail
 refine (HSP'.out w1 O1.out.2 _ _ _ O1.out.1).mono ?_
 rintro e w2 ⟨pa, pc, sa, sc, wa, wc, ha, hc, rfl, o2, b2⟩
 have ba := below_allocS w2 (oQ4 pa m pc sa m sc wa (m * m) wc ha m hc)
 have X3 : Hid (Below w0.heap.size w0 (w2.alloc (oQ4 pa m pc sa m sc wa (m * m) wc ha m hc)) ∧ Own2 (w2.alloc (oQ4 pa m pc sa m sc wa (m * m) wc ha m hc)) w1.heap.size w2.heap.size m L H (fun _ => newS) (.slice pa m pc) (.slice sa m sc) (.slice wa (m * m) wc) (.slice ha m hc) ∧ BoxC (w2.alloc (oQ4 pa m pc sa m sc wa (m * m) wc ha m hc)) w2.heap.size (.slice pa m pc) (.slice sa m sc) (.slice wa (m * m) wc) (.slice ha m hc) ∧ w0.heap.size ≤ w1.heap.size ∧ w1.heap.size ≤ w2.heap.size ∧ w2.heap.size < (w2.alloc (oQ4 pa m pc sa m sc wa (m * m) wc ha m hc)).heap.size) := ⟨(O1.out.2.trans (b2.mono O1.out.2.size)).trans (ba.mono (Nat.le_trans O1.out.2.size b2.size)), o2.below ba, BoxC.new w2 _ _ _ _ _, O1.out.2.size, b2.size, by simp⟩
 go_upto_region 6 with fail
 clear b2 o2 O1 ba
 generalize hN1 : w1.heap.size = N1 at *
 generalize hT8 : w2.heap.size = T8 at *
 clear hN1 hT8
 generalize w2.alloc (oQ4 pa m pc sa m sc wa (m * m) wc ha m hc) = w2a at *
 go_wp2_with fail
 refine (toInsSS_any a0 n cap aa L cs H w0 w2a hn HA.out X3.out.1).mono ?_
 rintro e w3 ⟨rfl, ⟨bs3, o3⟩, b3⟩
 have F3 : Hid (Below w0.heap.size w0 w3 ∧ Own2 w3 N1 T8 m L H (fun _ => newS) (.slice pa m pc) (.slice sa m sc) (.slice wa (m * m) wc) (.slice ha m hc) ∧ BoxC w3 T8 (.slice pa m pc) (.slice sa m sc) (.slice wa (m * m) wc) (.slice ha m hc) ∧ OutIns w3 w2a.heap.size w3.heap.size n L bs3 H) := ⟨X3.out.1.trans (b3.mono X3.out.1.size), X3.out.2.1.below b3, X3.out.2.2.1.below b3, o3⟩
 have LT : Hid (w0.heap.size ≤ N1 ∧ N1 ≤ T8 ∧ T8 < w2a.heap.size ∧ w2a.heap.size < w3.heap.size) := ⟨X3.out.2.2.2.1, X3.out.2.2.2.2.1, X3.out.2.2.2.2.2, o3.lt⟩
 clear b3 o3 X3
 generalize hD : w2a.heap.size = D at *
 clear hD
 go_wp2_with fail
 refine (HIM'.out w3 F3.out.1 _ _ _ F3.out.2.2.2).mono ?_
 rintro e w4 ⟨qa, qc, ra, rc, ta, tc, ua, uc, rfl, o4, b4⟩
 have ba := below_allocS w4 (oQ4 qa m qc ra m rc ta (m * m) tc ua m uc)
 have q4 := b4.trans (ba.mono b4.size)
 have F4 : Hid (NnF w0 n m L H bs3 N1 T8 D w3.heap.size w3.heap.size w4.heap.size (.slice pa m pc) (.slice sa m sc) (.slice wa (m * m) wc) (.slice ha m hc) (.slice qa m qc) (.slice ra m rc) (.slice ta (m * m) tc) (.slice ua m uc) (w4.alloc (oQ4 qa m qc ra m rc ta (m * m) tc ua m uc))) := ⟨F3.out.1.trans (q4.mono F3.out.1.size), F3.out.2.1.below q4, F3.out.2.2.1.below q4, F3.out.2.2.2.below q4 (Nat.le_refl _), o4.below ba, BoxC.new w4 _ _ _ _ _⟩
 have LT2 : Hid ((w0.heap.size ≤ N1 ∧ N1 ≤ T8 ∧ T8 < D ∧ D < w3.heap.size) ∧ w3.heap.size ≤ w4.heap.size) := ⟨LT.out, b4.size⟩
 go_upto_region 8 with fail
 clear b4 o4 ba q4 F3 LT
 generalize hB4 : w3.heap.size = B4 at *
 generalize hT11 : w4.heap.size = T11 at *
 clear hB4 hT11
 generalize w4.alloc (oQ4 qa m qc ra m rc ta (m * m) tc ua m uc) = wC at *
 obtain ⟨p0, p1, p2, p3⟩ := F4.out.b8
 obtain ⟨q0, q1, q2, q3⟩ := F4.out.b11
 go_wp2_with fail
 clear p0 p1 p2 p3 q0 q1 q2 q3
 refine (eqSys_new m L H _ B4 T11 N1 T8 _ _ _ _ _ _ _ _ wC HNL.out (fun i _ => newS_lens i) F4.out.o4 F4.out.o2).mono ?_
 rintro e w5 ⟨rfl, b5⟩
 have F5 : Hid (NnF w0 n m L H bs3 N1 T8 D B4 B4 T11 (.slice pa m pc) (.slice sa m sc) (.slice wa (m * m) wc) (.slice ha m hc) (.slice qa m qc) (.slice ra m rc) (.slice ta (m * m) tc) (.slice ua m uc) w5) := F4.out.below F4.out.be.size b5
 clear b5 F4
 go_wp2_with fail
 refine (toInsSS_any a0 n cap aa L cs H w0 w5 hn HA.out F5.out.be).mono ?_
 rintro e w6 ⟨rfl, ⟨bs6, o6⟩, b6⟩
 have T6 : Hid (OutIns w6 w5.heap.size w6.heap.size n L bs6 H ∧ Below w5.heap.size w5 w6) := ⟨o6, b6⟩
 clear o6 b6
 go_wp2_with fail
 refine (eqInsSS_same _ _ _ _ n _ _ L bs3 bs6 H w6 hn HLL.out (F5.out.s3.below T6.out.2 F5.out.s3.le) T6.out.1).mono ?_
 rintro e w7 ⟨rfl, b7⟩
 have Q7 : Hid (Below w5.heap.size w5 w7) := T6.out.2.trans (b7.mono T6.out.2.size)
 clear b7 T6
 have F7 : Hid (NnF w0 n m L H bs3 N1 T8 D B4 B4 T11 (.slice pa m pc) (.slice sa m sc) (.slice wa (m * m) wc) (.slice ha m hc) (.slice qa m qc) (.slice ra m rc) (.slice ta (m * m) tc) (.slice ua m uc) w7) := F5.out.below F5.out.be.size Q7.out
 clear Q7 F5
 go_wp2_with fail
 refine (markInsSS_any _ _ n _ L bs3 H 1 w7 hn (by have := HS.out; omega) (by omega) (by omega) F7.out.s3).mono ?_
 rintro e w8 ⟨rfl, t8'⟩
 have t8 : Touch (fun b => D ≤ b ∧ b < B4) w7 w8 := t8'.mono fun b hb => ⟨Nat.le_of_lt hb.1, hb.2⟩
 have hz : ¬ (1 + 5 * (sumL L n : Nat) : Int) < 0 := by omega
 have F8 : Hid (NnG w0 m L H H (fun _ => newS) N1 T8 B4 T11 (.slice pa m pc) (.slice sa m sc) (.slice wa (m * m) wc) (.slice ha m hc) (.slice qa m qc) (.slice ra m rc) (.slice ta (m * m) tc) (.slice ua m uc) w8) := F7.out.mark t8 (by have := LT2.out; omega) (by have := LT2.out; omega) (Nat.le_refl _) LT2.out.2
 clear t8 t8' F7
 obtain ⟨p0, p1, p2, p3⟩ := F8.out.b8
 obtain ⟨q0, q1, q2, q3⟩ := F8.out.b11
 go_wp2_with fail
 clear p0 p1 p2 p3 q0 q1 q2 q3
 refine (eqSys_new m L H _ B4 T11 N1 T8 _ _ _ _ _ _ _ _ w8 HNL.out (fun i _ => newS_lens i) F8.out.o4 F8.out.o2).mono ?_
 rintro e w9 ⟨rfl, b9⟩
 have F9 : Hid (NnG w0 m L H H (fun _ => newS) N1 T8 B4 T11 (.slice pa m pc) (.slice sa m sc) (.slice wa (m * m) wc) (.slice ha m hc) (.slice qa m qc) (.slice ra m rc) (.slice ta (m * m) tc) (.slice ua m uc) w9) := F8.out.below b9
 clear b9 F8
 obtain ⟨q0, q1, q2, q3⟩ := F9.out.b11
 go_wp2_with fail
 clear q0 q1 q2 q3
 refine (markSys_new m L H B4 T11 _ _ _ _ w9 HNL.out (by have := F9.out.b11.ltF; have := LT2.out; omega) F9.out.o4).mono ?_
 rintro e w10 ⟨rfl, o10, t10⟩
 have F10 : Hid (NnG w0 m L H (fun i => mkI (1 + 5 * (sumL L i : Nat))) (fun i => mkS (mkZ2 (nwY m L H) 1 + (2 * i + sumL (lenS (nwY m L H).sS) i : Nat)) newS) N1 T8 B4 T11 (.slice pa m pc) (.slice sa m sc) (.slice wa (m * m) wc) (.slice ha m hc) (.slice qa m qc) (.slice ra m rc) (.slice ta (m * m) tc) (.slice ua m uc) w10) := F9.out.mark t10 o10 (by have := LT2.out; omega) (by have := LT2.out; omega)
 have HZ : Hid (¬ mkZ3 (nwY m L H) 1 < 0) := by
  have := (mkZ_bd (HNL.out.sums H)).2.1
  show ¬ mkZ3 (nwY m L H) 1 < 0
  omega
 clear t10 o10 F9
 obtain ⟨q0, q1, q2, q3⟩ := F10.out.b11
 go_wp2_with fail
 clear q0 q1 q2 q3
 refine (heldSys_new m L H B4 T11 _ _ _ _ w10 HNL.out F10.out.o4).mono ?_
 rintro e w11 ⟨rfl, b11⟩
 have F11 : Hid (NnG w0 m L H (fun i => mkI (1 + 5 * (sumL L i : Nat))) (fun i => mkS (mkZ2 (nwY m L H) 1 + (2 * i + sumL (lenS (nwY m L H).sS) i : Nat)) newS) N1 T8 B4 T11 (.slice pa m pc) (.slice sa m sc) (.slice wa (m * m) wc) (.slice ha m hc) (.slice qa m qc) (.slice ra m rc) (.slice ta (m * m) tc) (.slice ua m uc) w11) := F10.out.below b11
 clear b11 F10
 have hz5 := HZ.out
 go_wp2_with fail
 clear hz5
 refine (toInsSS_any a0 n cap aa L cs H w0 w11 hn HA.out F11.out.be).mono ?_
 rintro e w12 ⟨rfl, ⟨bs12, o12⟩, b12⟩
 have F12 : Hid (NnG w0 m L H (fun i => mkI (1 + 5 * (sumL L i : Nat))) (fun i => mkS (mkZ2 (nwY m L H) 1 + (2 * i + sumL (lenS (nwY m L H).sS) i : Nat)) newS) N1 T8 B4 T11 (.slice pa m pc) (.slice sa m sc) (.slice wa (m * m) wc) (.slice ha m hc) (.slice qa m qc) (.slice ra m rc) (.slice ta (m * m) tc) (.slice ua m uc) w12 ∧ OutIns w12 w11.heap.size w12.heap.size n L bs12 H) := ⟨F11.out.below b12, o12⟩
 clear b12 F11 o12
 go_wp2_with fail
 refine (HIM'.out w12 F12.out.1.be _ _ _ F12.out.2).mono ?_
 rintro e w13 ⟨ka, kc, la, lc, ma, mc, na, nc, rfl, o13, b13⟩
 have ba := below_allocS w13 (oQ4 ka m kc la m lc ma (m * m) mc na m nc)
 have q13 := b13.trans (ba.mono b13.size)
 have F13 : Hid (NnG w0 m L H (fun i => mkI (1 + 5 * (sumL L i : Nat))) (fun i => mkS (mkZ2 (nwY m L H) 1 + (2 * i + sumL (lenS (nwY m L H).sS) i : Nat)) newS) N1 T8 B4 T11 (.slice pa m pc) (.slice sa m sc) (.slice wa (m * m) wc) (.slice ha m hc) (.slice qa m qc) (.slice ra m rc) (.slice ta (m * m) tc) (.slice ua m uc) (w13.alloc (oQ4 ka m kc la m lc ma (m * m) mc na m nc)) ∧ Own2 (w13.alloc (oQ4 ka m kc la m lc ma (m * m) mc na m nc)) w12.heap.size w13.heap.size m L H (fun _ => newS) (.slice ka m kc) (.slice la m lc) (.slice ma (m * m) mc) (.slice na m nc) ∧ BoxC (w13.alloc (oQ4 ka m kc la m lc ma (m * m) mc na m nc)) w13.heap.size (.slice ka m kc) (.slice la m lc) (.slice ma (m * m) mc) (.slice na m nc)) := ⟨F12.out.1.below q13, o13.below ba, BoxC.new w13 _ _ _ _ _⟩
 go_upto_region 25 with fail
 clear b13 o13 ba q13 F12
 generalize hN12 : w12.heap.size = N12 at *
 generalize hT16 : w13.heap.size = T16 at *
 clear hN12 hT16
 generalize w13.alloc (oQ4 ka m kc la m lc ma (m * m) mc na m nc) = wD at *
 obtain ⟨p0, p1, p2, p3⟩ := F13.out.1.b8
 obtain ⟨q0, q1, q2, q3⟩ := F13.out.2.2
 go_wp2_with fail
 clear p0 p1 p2 p3 q0 q1 q2 q3
 refine (eqSys_new m L H _ N12 T16 N1 T8 _ _ _ _ _ _ _ _ wD HNL.out (fun i _ => newS_lens i) F13.out.2.1 F13.out.1.o2).mono ?_
 rintro e w14 ⟨rfl, b14⟩
 have F14 : Hid (NnG w0 m L H (fun i => mkI (1 + 5 * (sumL L i : Nat))) (fun i => mkS (mkZ2 (nwY m L H) 1 + (2 * i + sumL (lenS (nwY m L H).sS) i : Nat)) newS) N1 T8 B4 T11 (.slice pa m pc) (.slice sa m sc) (.slice wa (m * m) wc) (.slice ha m hc) (.slice qa m qc) (.slice ra m rc) (.slice ta (m * m) tc) (.slice ua m uc) w14) := F13.out.1.below b14
 clear b14 F13
 obtain ⟨q0, q1, q2, q3⟩ := F14.out.b11
 go_wp2_with fail
 clear q0 q1 q2 q3
 refine (heldSys_new m L H B4 T11 _ _ _ _ w14 HNL.out F14.out.o4).mono ?_
 rintro e w15 ⟨rfl, b15⟩
 have F15 : Hid (NnG w0 m L H (fun i => mkI (1 + 5 * (sumL L i : Nat))) (fun i => mkS (mkZ2 (nwY m L H) 1 + (2 * i + sumL (lenS (nwY m L H).sS) i : Nat)) newS) N1 T8 B4 T11 (.slice pa m pc) (.slice sa m sc) (.slice wa (m * m) wc) (.slice ha m hc) (.slice qa m qc) (.slice ra m rc) (.slice ta (m * m) tc) (.slice ua m uc) w15) := F14.out.below b15
 clear b15 F14
 have hz5 := HZ.out
 go_wp2
 go_ret
 exact ⟨rfl, F15.out.be⟩
theorem sysNewLaw_great (a0 : Option Addr) (n cap : Nat) (aa : Nat → Option Addr) (L cs : Nat → Nat) (W : World) (hr : RowS W a0 n fun i => .slice (aa i) (L i) (cs i)) (hn : n ≤ maxLen) (hL : ∀ i, i < n → L i ≤ maxLen) (hs : 1048576 < n + sumL L n) :
  Calls Tryz.prog 3 #[.slice a0 n cap] W fun e w' => e = .returned (.bool true) ∧ Below W.heap.size W w' := by
 have HR : Hid (RowS W a0 n fun i => .slice (aa i) (L i) (cs i)) := hr
 have hs' : (1048576 : Int) < (n : Int) + (sumL L n : Nat) := by omega
 have HH : Hid (((1048576 : Int) < (n : Int) + (sumL L n : Nat)) ∧ n ≤ maxLen ∧ ∀ i, i < n → L i ≤ maxLen) := ⟨hs', hn, hL⟩
 clear hr hs hs' hL
 go_enter Tryz.func3, Tryz.ntmps3
 go_wp2_with fail
 refine (szInsSS_great a0 n cap aa L cs 1048576 W HR.out HH.out.1 (by omega) (Int.le_refl _) HH.out.2.1 HH.out.2.2).mono ?_
 rintro e w0 ⟨rfl, rfl⟩
 go_wp2
 go_ret
 exact ⟨rfl, Below.refl _ _⟩
theorem sysNewLifted (os : Os) (started : os.Started) (H : Type) (enc : TypeId × Value → H) :
  ReturnsInHanded {} Tryz.checked os 3 .any (fun w args => (Rows.fnExactSysNewSpec.pre enc Tryz.prog Tryz.f3 [] false w args ∧ laidMetH Tryz.prog [("errors.errorType", Rows.laid_errors_errorType)] w) ∧ sizedMet enc Tryz.prog Tryz.f3 (OpenSpec.ofChange Rows.fnExactSysNewSpec) false w args)
   (Rows.fnExactSysNewSpec.post enc Tryz.prog Tryz.f3 false true false false) := by
 refine returnsInHanded_of_change_and (C := Tryz.checked) (X := fun w _ => laidMetH Tryz.prog [("errors.errorType", Rows.laid_errors_errorType)] w) (fun _ _ _ hh h => h.of_heap hh) Tryz.own started (by kernel_rfl) Tryz.func3
  (ChangeSpec.witness_at (enc := enc) (C := Tryz.checked) (os := os) (X := fun w _ => laidMetH Tryz.prog [("errors.errorType", Rows.laid_errors_errorType)] w) false (laidWorld os) #[.slice none 0 0] 8 rfl (by kernel_rfl) (by kernel_rfl) (by kernel_rfl) (by kernel_rfl) (by kernel_rfl) (laidWorld_met os _)) ?_
 intro W base args ds gs before hval0 hW _ _ hL _
 have hval : ∀ (j : Nat) t v, Tryz.f3.params[j]? = some t → args[j]? = some v → Value.okWide Tryz.prog W .any base t v := hval0
 have hW' := hW
 obtain ⟨p, q, hA0, hV, rfl, hfz, hnd⟩ := hW
 have hA : DataW.TrodAll enc Tryz.prog W 0 (fun _ => true) true Tryz.f3.params.toList args.toList ds p := hA0
 rw [Tryz.params3] at hA hval
 obtain ⟨v0, d0, rfl, rfl, h0⟩ := trodAll_one hA
 obtain ⟨rfl, rfl⟩ := trodVars_none hV
 have lt0 : ∀ x ∈ p, x.block < W.heap.size := by obtain ⟨m, hm⟩ := h0; exact DataW.trod_lt m _ _ _ hm
 have hg := handle_of_laid hL
 clear hA0 hval0
 have hlaw : Calls Tryz.prog 3 #[v0] W fun e w' => e = .returned (.bool true) ∧ Below W.heap.size W w' := by
  obtain ⟨a0, len, cap, rfl⟩ := okWide_slice Tryz.underlying22 (hval 0 22 v0 rfl rfl)
  obtain ⟨hm, aa, ls, cs, hr, hl, hy⟩ := open_InsSS h0
  by_cases hs : len + sumL ls len ≤ 1048576
  ·obtain ⟨hh, hA⟩ := hy (sum_le (show sumL ls len ≤ 1048576 by omega))
   exact sysNewLaw_small a0 len cap aa ls cs hh W hs hA hg
  ·exact sysNewLaw_great a0 len cap aa ls cs W hr hm hl (by omega)
 refine hlaw.mono fun e W' ⟨he, bel⟩ => ?_
 subst he
 exact ⟨_, rfl, _, _, _, [], _, [], hW', trodAll_mk1 (shut_bool Tryz.underlying4 _), trodAll_mk1 (Below.trod Tryz.laidOut (by kernel_rfl) (of_decide_eq_true (by kernel_rfl)) h0 bel lt0), rfl, bel.frame _, fun h => by cases h⟩
theorem sysNewSaid : Rows.FnExactSysNewSaid :=
 OpenClaim.holds_of_wide 3 Tryz.f3 rfl rfl rfl rfl rfl rfl rfl ⟨rfl, rfl, rfl, rfl, rfl⟩ rfl rfl rfl rfl rfl (by kernel_rfl) Tryz.func3 (by kernel_rfl)
  (of_decide_eq_true (by kernel_rfl)) (by unfold Func.isWrapper; first | (rw [if_pos (by decide +kernel)]; kernel_rfl) | (rw [if_neg (by decide +kernel)]; exact ⟨rfl, rfl⟩))
  (fun os started H enc _ => sysNewLifted os started H enc)
theorem sysNewPlain (f : FuncId) (fn : Func) (hf : Tryz.pinned.checked.prog.funcNamed "loop.example/g00196/laws.FnExactSysNew" = some f) (hfn : Tryz.pinned.checked.prog.funcs[f]? = some fn) :
  true = Tryz.pinned.checked.prog.looks [] ∧ ∀ (j : Nat) t, fn.params[j]? = some t → Tryz.pinned.checked.prog.wantsStandIn t = false := by
 obtain rfl : f = 3 := Option.some.inj ((show Tryz.prog.funcNamed "loop.example/g00196/laws.FnExactSysNew" = some 3 by kernel_rfl).symm.trans hf) |>.symm
 obtain rfl : fn = Tryz.f3 := (Option.some.inj (Tryz.func3.symm.trans hfn)).symm
 refine ⟨by kernel_rfl, fun j t ht => ?_⟩
 rw [Tryz.params3] at ht
 have hm := Array.mem_of_getElem? ht
 simp at hm
 obtain rfl := hm
 exact (show Tryz.prog.wantsStandIn 22 = false by kernel_rfl)
theorem sysNew_card : Rows.FnExactSysNewCardSaid :=
 Claim7.holds_tied_plain_at .later [] _ _ _ _ sysNewSaid (fun _ h => by cases h) (by kernel_rfl) (fun _ h => by cases h) fnExactSysNew_row_tie rfl ⟨rfl, rfl⟩ (by kernel_rfl) rfl sysNewPlain (by kernel_rfl)
end Go.Proofs.YtdigofhceahpdaaGreatDoor
