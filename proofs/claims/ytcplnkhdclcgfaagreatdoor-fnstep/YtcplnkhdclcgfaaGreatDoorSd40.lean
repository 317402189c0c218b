/- The walk of the program's isFullFor. -/
import Derived.Test.YtcplnkhdclcgfaaGreatDoorSd0
import Derived.Test.YtcplnkhdclcgfaaGreatDoorSd34
import Derived.Test.YtcplnkhdclcgfaaGreatDoorSd23
import Derived.Test.YtcplnkhdclcgfaaGreatDoorSd38
import Derived.Test.YtcplnkhdclcgfaaGreatDoorSd30
import Derived.Test.YtcplnkhdclcgfaaGreatDoorSd39
import Derived.Deep.RegionWith
namespace Go.Proofs.YtcplnkhdclcgfaaGreatDoor
set_option maxRecDepth 100000
set_option maxHeartbeats 2000000
open Go.ChangeShapes Go.WideShapes Go.ChangeAt Go.RowKit Go.Deep
section
variable {P : Program} {ops : Array Oper} {Q : Exit -> Act -> World -> Prop} {md : Region.Mode} {S : World -> Prop} {G : Nat -> Bool}
def notB (b : Bool) : Nat := bif b then 0 else 1
def outI (b : Bool) (i : Nat) : List Nat := bif b then [] else [i]
theorem outI_mem {b : Bool} {i j : Nat} (h : j ∈ outI b i) : b = false /\ j = i := by
 cases b with
 | true => cases h
 | false => exact ⟨rfl, List.mem_singleton.1 h⟩
theorem wpG_four (lst : Bool -> Bool -> Bool -> Bool -> Bool -> Array Bool) (i1 i2 i3 i4 i5 : Nat) {o5 : Oper} (I : Bool -> Bool -> Bool -> Bool -> Act -> World -> Prop) (J : Bool -> Act -> World -> Prop) {f0 : Nat}
  (hrd : ∀ a b c d, (a && b && c) = false -> Region.ready md ops (lst a b c d false) = outI a i1 ++ (outI b i2 ++ (outI c i3 ++ outI d i4)))
  (s1 : ∀ b c d, (lst false b c d false).setIfInBounds i1 true = lst true b c d false) (s2 : ∀ a c d, (lst a false c d false).setIfInBounds i2 true = lst a true c d false) (s3 : ∀ a b d, (lst a b false d false).setIfInBounds i3 true = lst a b true d false) (s4 : ∀ a b c e, (lst a b c false e).setIfInBounds i4 true = lst a b c true e) (s5 : ∀ d, (lst true true true d false).setIfInBounds i5 true = lst true true true d true)
  (e5 : ops.toList[i5]? = some o5) (hs : Region.noSelect ops = true) (hf : ∀ d, Region.free md ops (lst true true true d false) i5 = true) (hr5 : ∀ d, (Region.ready md ops (lst true true true d false)).contains i5 = true) (hrJ : Region.ready md ops (lst true true true false true) = [i4]) (hQ : ∀ v c a w, Q (.panic c) (a.put o5.dst v) w -> Q (.panic c) a w)
  (h1 : ∀ b c d x w, I false b c d x w -> wpOp P ops Q i1 (fun x' w' => (S w -> G i1 = false -> S w') /\ I true b c d x' w') x w) (h2 : ∀ a c d x w, I a false c d x w -> wpOp P ops Q i2 (fun x' w' => (S w -> G i2 = false -> S w') /\ I a true c d x' w') x w)
  (h3 : ∀ a b d x w, I a b false d x w -> wpOp P ops Q i3 (fun x' w' => (S w -> G i3 = false -> S w') /\ I a b true d x' w') x w) (h4 : ∀ a b c x w, I a b c false x w -> wpOp P ops Q i4 (fun x' w' => (S w -> G i4 = false -> S w') /\ I a b c true x' w') x w)
  (h5 : ∀ d x w, I true true true d x w -> Region.wanted o5 (yielded ops x.tmps) = true /\ ∃ v, (∀ w, (execOp x.eval o5).run P w = .ok (.value v) w) /\ J d (x.put o5.dst v) w)
  (hJ : ∀ x w, J false x w -> wpOp P ops Q i4 (fun x' w' => (S w -> G i4 = false -> S w') /\ J true x' w') x w)
  (hend : ∀ x w, J true x w -> wpG P md ops Q S G f0 (lst true true true true true) x w) :
  ∀ (m : Nat) (a b c d : Bool) (x : Act) (w : World), notB a + notB b + notB c + notB d = m -> I a b c d x w -> wpG P md ops Q S G (f0 + m + 1) (lst a b c d false) x w := by
 intro m
 induction m with
 | zero =>
  intro a b c d x w hm hI
  obtain ⟨rfl, rfl, rfl, rfl⟩ : a = true /\ b = true /\ c = true /\ d = true := by
   cases a <;> cases b <;> cases c <;> cases d <;> simp [notB] at hm ⊢
  obtain ⟨hw, v, hv, hj⟩ := h5 _ x w hI
  exact wpG_takeW i5 e5 hs (hf _) (hr5 _) hQ hw ⟨v, hv, by rw [s5]; exact hend _ _ hj⟩
 | succ m ih =>
  intro a b c d x w hm hI
  rcases zK (a && b && c) with hT | hne
  ·obtain ⟨rfl, rfl, rfl⟩ : a = true /\ b = true /\ c = true := by
    cases a <;> cases b <;> cases c <;> simp at hT ⊢
   obtain ⟨rfl, rfl⟩ : d = false /\ m = 0 := by
    cases d <;> simp [notB] at hm ⊢ <;> exact hm
   obtain ⟨hw, v, hv, hj⟩ := h5 _ x w hI
   refine wpG_takeW i5 e5 hs (hf _) (hr5 _) hQ hw ⟨v, hv, ?_⟩
   rw [s5]
   refine ⟨(fun h0 => by rw [hrJ] at h0; cases h0), fun i hi => ?_⟩
   rw [hrJ] at hi
   obtain rfl := List.mem_singleton.1 hi
   refine wpOp_mono (fun x' w' h => ⟨h.1, ?_⟩) (hJ _ _ hj)
   rw [s4]
   exact hend _ _ h.2
  have hr := hrd a b c d hne
  refine ⟨fun h0 => ?_, fun i hi => ?_⟩
  ·rw [hr] at h0
   cases a <;> cases b <;> cases c <;> cases d <;> simp [outI] at h0 hne
  ·rw [hr, List.mem_append, List.mem_append, List.mem_append] at hi
   rcases hi with hi | hi | hi | hi
   ·obtain ⟨rfl, rfl⟩ := outI_mem hi
    refine wpOp_mono (fun x' w' h => ⟨h.1, ?_⟩) (h1 b c d x w hI)
    rw [s1]
    exact ih true b c d x' w' (by simp [notB] at hm ⊢; omega) h.2
   ·obtain ⟨rfl, rfl⟩ := outI_mem hi
    refine wpOp_mono (fun x' w' h => ⟨h.1, ?_⟩) (h2 a c d x w hI)
    rw [s2]
    exact ih a true c d x' w' (by simp [notB] at hm ⊢; omega) h.2
   ·obtain ⟨rfl, rfl⟩ := outI_mem hi
    refine wpOp_mono (fun x' w' h => ⟨h.1, ?_⟩) (h3 a b d x w hI)
    rw [s3]
    exact ih a b true d x' w' (by simp [notB] at hm ⊢; omega) h.2
   ·obtain ⟨rfl, rfl⟩ := outI_mem hi
    refine wpOp_mono (fun x' w' h => ⟨h.1, ?_⟩) (h4 a b c x w hI)
    rw [s4]
    exact ih a b c true x' w' (by simp [notB] at hm ⊢; omega) h.2
end
structure ZL (E : TypeId) (w : World) (P : Nat -> Prop) (v : Value) (n : Nat) : Prop where
 row : w.ownsRow 0 E 1 v n (List.replicate n (.slice none 0 0))
 rb : ∀ k, v.ownBlock = some k -> P k
section
variable {E : TypeId} {w w' : World} {P : Nat -> Prop} {v : Value} {n : Nat}
theorem ZL.keep (o : ZL E w P v n) (hb : ∀ k, P k -> k < w.heap.size -> w'.heap[k]? = w.heap[k]?) : ZL E w' P v n := ⟨ownsRow_blkL o.row fun k hk => hb k (o.rb k hk) (o.row.lt k hk).2, o.rb⟩
theorem ZL.below (o : ZL E w P v n) (hb : Below w.heap.size w w') : ZL E w' P v n := o.keep fun k _ hk => hb.block k hk
theorem ZL.mono (o : ZL E w P v n) {P' : Nat -> Prop} (h : ∀ k, P k -> k < w.heap.size -> P' k) : ZL E w P' v n := ⟨o.row, fun k hk => h k (o.rb k hk) (o.row.lt k hk).2⟩
theorem ZL.nil (E : TypeId) (w : World) (P : Nat -> Prop) : ZL E w P (.slice none 0 0) 0 := ⟨World.ownsRow_nil _ _ _ _, fun k hk => by cases hk⟩
theorem ZL.cell (o : ZL E w P v n) {i : Nat} (hi : i < n) : ∃ g cap, v = .slice (some ⟨g, 0, none⟩) n cap /\ g < w.heap.size /\ w.cell? ⟨g, i, none⟩ = some (.slice none 0 0) := by
 rcases o.row.2 with ⟨_, h0⟩ | ⟨g, cap, cur, rfl, hb, hg, hr⟩
 ·omega
 ·refine ⟨g, cap, rfl, (o.row.lt g rfl).2, ?_⟩
  rw [o.row.cellAt i (by omega)]
  simp [hi]
theorem ZL.rowS (o : ZL E w P v n) : RowS w (adOf v) n fun _ => .slice none 0 0 := by
 rcases Nat.eq_zero_or_pos n with h | h
 ·exact .inl h
 ·obtain ⟨g, cap, rfl, hg, -⟩ := o.cell h
  refine .inr ⟨g, 0, rfl, hg, fun i hi => ?_⟩
  obtain ⟨g', cap', ew, -, hc⟩ := o.cell hi
  simp only [Value.slice.injEq, Option.some.injEq, Addr.mk.injEq, and_true, true_and] at ew
  obtain ⟨rfl, rfl⟩ := ew
  rw [Nat.zero_add]
  exact hc
end
theorem run_make_nils {t e : TypeId} {bytes : Nat} (K : Kind t e 1 bytes) (hz0 : (Tryz.prog.info? e).bind (·.zero) = some (.slice none 0 0)) (n : Nat) (hn : n <= 1048576) (w : World) : (Instr.makeSlice t (.int .i64 (n : Int)) (.int .i64 (n : Int))).run Tryz.prog w = .ok (.slice (some ⟨w.heap.size, 0, none⟩) n n) (w.alloc (.cells (madeCells #[.slice none 0 0] n) e)) := by
 obtain ⟨i, z, hi, hz, hs, hb, hzs⟩ := K.inf
 have hz' : z = .slice none 0 0 := by
  rw [hi] at hz0
  simp only [Option.bind_some, hz, Option.some.injEq] at hz0
  exact hz0
 subst hz'
 have hby : i.bytes * n <= 281474976710656 := by
  rw [hb]
  exact zP (Nat.mul_le_mul K.sml hn) (by omega)
 have hby' : (i.bytes : Int) * (n : Int) <= 281474976710656 := by rw [<- Int.natCast_mul]; exact Int.ofNat_le.2 hby
 have h := run_make (P := Tryz.prog) w t e i (.slice none 0 0) K.und hi hz .i64 .i64 (n : Int) (n : Int) (by omega) (by omega) hby' (by omega)
 rw [hs, Nat.mul_one, Int.toNat_natCast] at h
 exact h
theorem ZL.made (E : TypeId) (w : World) (P : Nat -> Prop) (hP : P w.heap.size) (n : Nat) (hn : n <= 1048576) : ZL E (w.alloc (.cells (madeCells #[.slice none 0 0] n) E)) P (.slice (some ⟨w.heap.size, 0, none⟩) n n) n := by
 have hc : (madeCells #[Value.slice none 0 0] n).toList = List.replicate n (.slice none 0 0) := by
  apply List.ext_getElem?
  intro i
  by_cases h : i < n
  ·simp [madeCells, h, Nat.mod_one]
  ·simp [madeCells, h]
 refine ⟨⟨by simp, .inr ⟨w.heap.size, n, madeCells #[.slice none 0 0] n, rfl, Nat.zero_le _, Array.getElem?_push_size, Nat.le_refl _, by unfold maxLen; omega, by simp [size_madeCells], ?_⟩⟩, fun k hk => by cases hk; exact hP⟩
 rw [hc, Nat.mul_one]
 simp
def nwY (n : Nat) (L : Nat -> Nat) (H : Nat -> Nat -> I5) : Sy := ⟨n, L, H, n, fun _ => newS, n * n, fun _ => 0, fun _ _ => ⟨false, 0⟩, n, fun _ => 0, fun _ _ => ⟨0, 0, 0⟩⟩
noncomputable def snB (n : Nat) (L : Nat -> Nat) (H : Nat -> Nat -> I5) : Bool := decide (n <= 4) && (nwY n L H).okB
structure OwnN (w : World) (c : Nat -> Nat) (B n : Nat) (L : Nat -> Nat) (H : Nat -> Nat -> I5) (vp vs vw vh : Value) (up us : Nat -> Value) : Prop where
 p : LI true w (Cl B c 1) vp n up L H
 s : LS w (Cl B c 2) vs n us fun _ => newS
 t : ZL 124 w (Cl B c 3) vw (n * n)
 h : ZL 35 w (Cl B c 4) vh n
def Own1 (w : World) (B T n : Nat) (L : Nat -> Nat) (H : Nat -> Nat -> I5) (vp vs vw vh : Value) : Prop := ∃ c up us, OwnN w c B n L H vp vs vw vh up us /\ ∀ b, T <= b -> c b = 0
theorem Own1.touch {w w' : World} {B T n : Nat} {L : Nat -> Nat} {H : Nat -> Nat -> I5} {vp vs vw vh : Value} {P : Nat -> Prop} (o : Own1 w B T n L H vp vs vw vh) (ht : Touch P w w') (hp : ∀ b, P b -> T <= b \/ b < B) : Own1 w' B T n L H vp vs vw vh := by
 obtain ⟨c, up, us, o, h⟩ := o
 have hk : ∀ i, i ≠ 0 -> ∀ k, Cl B c i k -> k < w.heap.size -> w'.heap[k]? = w.heap[k]? := fun i hi k hk hl => ht.block k hl fun e => by
  rcases hp k e with h1 | h1
  ·exact hi (hk.2.symm.trans (h k h1))
  ·have := hk.1
   omega
 exact ⟨c, up, us, ⟨o.p.keep (hk 1 (by decide)), o.s.keep (hk 2 (by decide)), o.t.keep (hk 3 (by decide)), o.h.keep (hk 4 (by decide))⟩, h⟩
theorem Own1.zero (w : World) (B T : Nat) (L : Nat -> Nat) (H : Nat -> Nat -> I5) : Own1 w B T 0 L H (.slice none 0 0) (.slice none 0 0) (.slice none 0 0) (.slice none 0 0) :=
 ⟨fun _ => 0, fun _ => .slice none 0 0, fun _ => .slice none 0 0, ⟨LL.nil _ _ _ _ _ _ _ _, LS.nil _ _ _ _, ZL.nil _ _ _, ZL.nil _ _ _⟩, fun _ _ => rfl⟩
theorem wpG_cast {P : Program} {ops : Array Oper} {Q : Exit -> Act -> World -> Prop} {md : Region.Mode} {S : World -> Prop} {G : Nat -> Bool} {fuel : Nat} {l : Array Bool} {a : Act} {w : World} (fuel' : Nat) (l' : Array Bool) (hf : fuel' = fuel) (hl : l' = l) (h : wpG P md ops Q S G fuel' l' a w) : wpG P md ops Q S G fuel l a w := by
 subst hf
 subst hl
 exact h
theorem nilItem : (Tryz.prog.info? 124).bind (·.zero) = some (.slice none 0 0) := by kernel_rfl
theorem nilEvent : (Tryz.prog.info? 35).bind (·.zero) = some (.slice none 0 0) := by kernel_rfl
structure NwF (W1 : World) (n : Nat) (L : Nat -> Nat) (H : Nat -> Nat -> I5) (a b c d : Bool) (v1 v2 v3 v4 : Value) (w : World) : Prop where
 be : Below W1.heap.size W1 w
 ow : ∃ k : Nat -> Nat, (a = true -> ∃ u, LI true w (Cl W1.heap.size k 1) v1 n u L H) /\ (b = true -> ZL 124 w (Cl W1.heap.size k 3) v2 (n * n)) /\ (c = true -> ZL 35 w (Cl W1.heap.size k 4) v3 n) /\ (d = true -> ∃ N, v4 = .pointer (some ⟨N, 0, none⟩) /\ W1.heap.size <= N /\ BoxC w N (.slice none 0 0) (.slice none 0 0) (.slice none 0 0) (.slice none 0 0) /\ (∀ j, w.frozen? ⟨N, j, none⟩ = false) /\ k N = 0)
section
variable {W1 : World} {n : Nat} {L : Nat -> Nat} {H : Nat -> Nat -> I5} {a b c d : Bool} {v1 v2 v3 v4 : Value} {w w' : World}
theorem NwF.keepBox {N : Nat} {k : Nat -> Nat} {q : Nat} (h : v4 = .pointer (some ⟨N, 0, none⟩) /\ W1.heap.size <= N /\ BoxC w N (.slice none 0 0) (.slice none 0 0) (.slice none 0 0) (.slice none 0 0) /\ (∀ j, w.frozen? ⟨N, j, none⟩ = false) /\ k N = 0) (hb : Below w.heap.size w w') : v4 = .pointer (some ⟨N, 0, none⟩) /\ W1.heap.size <= N /\ BoxC w' N (.slice none 0 0) (.slice none 0 0) (.slice none 0 0) (.slice none 0 0) /\ (∀ j, w'.frozen? ⟨N, j, none⟩ = false) /\ rcol k w.heap.size q N = 0 := by
 have hl := zJ w _ h.2.2.1.1
 exact ⟨h.1, h.2.1, h.2.2.1.below hb, fun j => ((bcell hb).2 _ j hl).trans (h.2.2.2.1 j), (rcol_old hl).trans h.2.2.2.2⟩
theorem NwF.one (h : NwF W1 n L H a b c d v1 v2 v3 v4 w) {v : Value} {u : Nat -> Value} (o : LI true w' (fun k => w.heap.size <= k /\ k < w'.heap.size) v n u L H) (hb : Below w.heap.size w w') : NwF W1 n L H true b c d v v2 v3 v4 w' := by
 obtain ⟨k, -, h2, h3, h4⟩ := h.ow
 have hs := h.be.size
 exact ⟨h.be.trans (hb.mono hs), rcol k w.heap.size 1, fun _ => ⟨u, o.mono fun j hj _ => ⟨Nat.le_trans hs hj.1, rcol_new hj.1⟩⟩, fun e => ((h2 e).mono fun j hj hl => hj.old hl).below hb, fun e => ((h3 e).mono fun j hj hl => hj.old hl).below hb, fun e => by
  obtain ⟨N, hN⟩ := h4 e
  exact ⟨N, NwF.keepBox hN hb⟩⟩
theorem NwF.two (h : NwF W1 n L H a b c d v1 v2 v3 v4 w) (hn : n * n <= 1048576) : NwF W1 n L H a true c d v1 (.slice (some ⟨w.heap.size, 0, none⟩) (n * n) (n * n)) v3 v4 (w.alloc (.cells (madeCells #[.slice none 0 0] (n * n)) 124)) := by
 obtain ⟨k, h1, -, h3, h4⟩ := h.ow
 have hs := h.be.size
 have hb := zQ w (.cells (madeCells #[.slice none 0 0] (n * n)) 124)
 exact ⟨h.be.trans (hb.mono hs), rcol k w.heap.size 3, fun e => by
  obtain ⟨u, o⟩ := h1 e
  exact ⟨u, (o.mono fun j hj hl => hj.old hl).below hb⟩, fun _ => ZL.made _ w _ ⟨hs, rcol_new (Nat.le_refl _)⟩ _ hn, fun e => ((h3 e).mono fun j hj hl => hj.old hl).below hb, fun e => by
  obtain ⟨N, hN⟩ := h4 e
  exact ⟨N, NwF.keepBox hN hb⟩⟩
theorem NwF.three (h : NwF W1 n L H a b c d v1 v2 v3 v4 w) (hn : n <= 1048576) : NwF W1 n L H a b true d v1 v2 (.slice (some ⟨w.heap.size, 0, none⟩) n n) v4 (w.alloc (.cells (madeCells #[.slice none 0 0] n) 35)) := by
 obtain ⟨k, h1, h2, -, h4⟩ := h.ow
 have hs := h.be.size
 have hb := zQ w (.cells (madeCells #[.slice none 0 0] n) 35)
 exact ⟨h.be.trans (hb.mono hs), rcol k w.heap.size 4, fun e => by
  obtain ⟨u, o⟩ := h1 e
  exact ⟨u, (o.mono fun j hj hl => hj.old hl).below hb⟩, fun e => ((h2 e).mono fun j hj hl => hj.old hl).below hb, fun _ => ZL.made _ w _ ⟨hs, rcol_new (Nat.le_refl _)⟩ _ hn, fun e => by
  obtain ⟨N, hN⟩ := h4 e
  exact ⟨N, NwF.keepBox hN hb⟩⟩
theorem NwF.four (h : NwF W1 n L H a b c d v1 v2 v3 v4 w) : NwF W1 n L H a b c true v1 v2 v3 (.pointer (some ⟨w.heap.size, 0, none⟩)) (w.alloc (zQ4)) := by
 obtain ⟨k, h1, h2, h3, -⟩ := h.ow
 have hs := h.be.size
 have hb := zQ w (zQ4)
 exact ⟨h.be.trans (hb.mono hs), rcol k w.heap.size 0, fun e => by
  obtain ⟨u, o⟩ := h1 e
  exact ⟨u, (o.mono fun j hj hl => hj.old hl).below hb⟩, fun e => ((h2 e).mono fun j hj hl => hj.old hl).below hb, fun e => ((h3 e).mono fun j hj hl => hj.old hl).below hb, fun _ => ⟨_, rfl, hs, BoxC.new w _ _ _ _ _, fun j => yB _ _ _ _ rfl, rcol_new (Nat.le_refl _)⟩⟩
end
structure NwS (W1 : World) (N n : Nat) (L : Nat -> Nat) (H : Nat -> Nat -> I5) (own : Bool) (k : Nat) (w : World) (vp vs vw vh : Value) (c : Nat -> Nat) (up us : Nat -> Value) : Prop where
 be : Below W1.heap.size W1 w
 bx : BoxC w N vp vs vw vh
 fr : ∀ j, w.frozen? ⟨N, j, none⟩ = false
 bN : W1.heap.size <= N
 cN : c N = 0
 p : own = true -> LI true w (Cl W1.heap.size c 1) vp n up L H
 s : LS w (Cl W1.heap.size c 2) vs k us fun _ => newS
 t : ZL 124 w (Cl W1.heap.size c 3) vw (n * n)
 h : ZL 35 w (Cl W1.heap.size c 4) vh n
section
variable {W1 : World} {N n : Nat} {L : Nat -> Nat} {H : Nat -> Nat -> I5} {own : Bool} {k : Nat} {w : World} {vp vs vw vh : Value} {c : Nat -> Nat} {up us : Nat -> Value}
theorem NwS.lt (h : NwS W1 N n L H own k w vp vs vw vh c up us) : N < w.heap.size := zJ w _ h.bx.1
theorem NwS.below {w' : World} (h : NwS W1 N n L H own k w vp vs vw vh c up us) (hb : Below w.heap.size w w') : NwS W1 N n L H own k w' vp vs vw vh c up us :=
 ⟨h.be.trans (hb.mono h.be.size), h.bx.below hb, fun j => ((bcell hb).2 _ j h.lt).trans (h.fr j), h.bN, h.cN, fun e => (h.p e).below hb, h.s.below hb, h.t.below hb, h.h.below hb⟩
theorem NwS.start {a : Bool} {v1 v2 v3 v4 : Value} (h : NwF W1 n L H own true true true v1 v2 v3 v4 w) (ho : own = a) (_hvp : a = true \/ True) : ∃ N c up us, v4 = .pointer (some ⟨N, 0, none⟩) /\ N < w.heap.size /\ BoxC w N (.slice none 0 0) (.slice none 0 0) (.slice none 0 0) (.slice none 0 0) /\ (∀ j, w.frozen? ⟨N, j, none⟩ = false) /\ NwS W1 N n L H own 0 ((((w.setCell ⟨N, 0, none⟩ v1).setCell ⟨N, 1, none⟩ (.slice none 0 0)).setCell ⟨N, 2, none⟩ v2).setCell ⟨N, 3, none⟩ v3) v1 (.slice none 0 0) v2 v3 c up us := by
 obtain ⟨k, h1, h2, h3, h4⟩ := h.ow
 obtain ⟨N, e, hN, bx, fr, cN⟩ := h4 rfl
 have hl := zJ w _ bx.1
 have hk : ∀ i, i ≠ 0 -> ∀ j, Cl W1.heap.size k i j -> j < w.heap.size -> ((((w.setCell ⟨N, 0, none⟩ v1).setCell ⟨N, 1, none⟩ (.slice none 0 0)).setCell ⟨N, 2, none⟩ v2).setCell ⟨N, 3, none⟩ v3).heap[j]? = w.heap[j]? := fun i hi j hj _ => by
  have hne : j ≠ N := fun e => hi (by rw [<- hj.2, e, cN])
  exact (zO _ _ _ _ hne).trans ((zO _ _ _ _ hne).trans ((zO _ _ _ _ hne).trans (zO _ _ _ _ hne)))
 obtain ⟨u, hu⟩ : ∃ u, own = true -> LI true w (Cl W1.heap.size k 1) v1 n u L H := by
  cases own with
  | false => exact ⟨fun _ => .slice none 0 0, fun e => by cases e⟩
  | true => obtain ⟨u, o⟩ := h1 rfl; exact ⟨u, fun _ => o⟩
 obtain ⟨g0, g1, g2, g3⟩ := id bx
 exact ⟨N, k, u, fun _ => .slice none 0 0, e, hl, bx, fr, (((h.be.setCell hN _).setCell hN _).setCell hN _).setCell hN _, BoxC.set4 ⟨g0, g1, g2, g3⟩ _ _ _ _, fun j => by simp only [World.frozen?_setCell]; exact fr j, hN, cN, fun e => (hu e).keep (hk 1 (by decide)), LS.nil _ _ _ _, (h2 rfl).keep (hk 3 (by decide)), (h3 rfl).keep (hk 4 (by decide))⟩
theorem NwS.push (h : NwS W1 N n L H own k w vp vs vw vh c up us) {w1 w3 : World} {u' v' : Value} (b1 : Below w.heap.size w w1) (hu : StOwn w1 w.heap.size u' 0 [0, 0, 0, 0] [] 0) (hv : w3.ownsRow 0 39 4 v' (k + 1) (flat (fun i => cellsL (us i)) k ++ cellsL u')) (g : w1.grownBy w3 vs.ownBlock) (hv' : ∀ j, v'.ownBlock = some j -> vs.ownBlock = some j \/ w1.heap.size <= j) :
  NwS W1 N n L H own (k + 1) (w3.setCell ⟨N, 1, none⟩ v') vp v' vw vh (rcol c w.heap.size 2) up (fun j => if j = k then u' else us j) := by
 have hN := h.lt
 have hB := h.be.size
 have hkeep : ∀ j, j < w.heap.size -> c j ≠ 2 -> w3.heap[j]? = w.heap[j]? := fun j hk hc => (g.block j (zL hk b1.size) fun e => hc (h.s.rb j e.symm).2).trans (b1.block j hk)
 have hset : ∀ j, j ≠ N -> (w3.setCell ⟨N, 1, none⟩ v').heap[j]? = w3.heap[j]? := fun j hk => zO _ _ _ _ hk
 have hcN : rcol c w.heap.size 2 N = 0 := (rcol_old hN).trans h.cN
 have hBN : w3.heap[N]? = w.heap[N]? := hkeep N hN (by rw [h.cN]; decide)
 have hkk : ∀ i, i ≠ 2 -> i ≠ 0 -> ∀ j, Cl W1.heap.size (rcol c w.heap.size 2) i j -> j < w.heap.size -> (w3.setCell ⟨N, 1, none⟩ v').heap[j]? = w.heap[j]? := fun i h2 h0 j hk hl => by
  have e : c j = i := (rcol_old hl).symm.trans hk.2
  exact (hset j fun en => h0 (by rw [<- e, en, h.cN])).trans (hkeep j hl (by rw [e]; exact h2))
 have hP : ∀ i j, Cl W1.heap.size c i j -> j < w.heap.size -> Cl W1.heap.size (rcol c w.heap.size 2) i j := fun i j hk hl => hk.old hl
 have hP' : ∀ j, w.heap.size <= j -> j < w3.heap.size -> Cl W1.heap.size (rcol c w.heap.size 2) 2 j := fun j hk _ => ⟨zP hB hk, rcol_new hk⟩
 obtain ⟨x0, x1, x2, x3⟩ := h.bx
 have hc : ∀ j, w3.cell? ⟨N, j, none⟩ = w.cell? ⟨N, j, none⟩ := fun j => zH hBN
 have hnew : ∀ j, Cl W1.heap.size (rcol c w.heap.size 2) 2 j -> j < w3.heap.size -> (w3.setCell ⟨N, 1, none⟩ v').heap[j]? = w3.heap[j]? := fun j hk _ => hset j fun e => by
  have e2 := hk.2
  rw [e, hcN] at e2
  cases e2
 have hbe : Below W1.heap.size W1 w3 := Below.grown (h.be.trans (b1.mono hB)) g (zP hB b1.size) fun j hj => (h.s.rb j hj).1
 refine ⟨hbe.setCell h.bN _, ⟨?_, ?_, ?_, ?_⟩, fun j => ?_, h.bN, hcN, fun e => ?_, ?_, ?_, ?_⟩
 ·rw [World.cell?_setCell_other _ _ _ _ (by simp), hc]; exact x0
 ·exact World.cell?_setCell_same _ _ _ ((hc 1).trans x1)
 ·rw [World.cell?_setCell_other _ _ _ _ (by simp), hc]; exact x2
 ·rw [World.cell?_setCell_other _ _ _ _ (by simp), hc]; exact x3
 ·rw [World.frozen?_setCell, zI hBN]; exact h.fr j
 ·exact ((h.p e).mono (hP 1)).keep (hkk 1 (by decide) (by decide))
 ·exact (h.s.push b1 hu hv g hv' (hP 2) hP').keep hnew
 ·exact (h.t.mono (hP 3)).keep (hkk 3 (by decide) (by decide))
 ·exact (h.h.mono (hP 4)).keep (hkk 4 (by decide) (by decide))
theorem NwS.own1 (h : NwS W1 N n L H true k w vp vs vw vh c up us) (hk : k = n) : Own1 w W1.heap.size w.heap.size n L H vp vs vw vh := by
 subst hk
 exact ⟨rcol c w.heap.size 0, up, us, ⟨(h.p rfl).mono fun j hj hl => hj.old hl, h.s.mono fun j hj hl => hj.old hl, h.t.mono fun j hj hl => hj.old hl, h.h.mono fun j hj hl => hj.old hl⟩, fun b hb => rcol_new hb⟩
theorem Own1.out4 {B T M : Nat} (o : Own1 w B T n L H vp vs vw vh) (hM : M < B) (a1 a2 a3 a4 : Value) : Own1 ((((w.setCell ⟨M, 0, none⟩ a1).setCell ⟨M, 1, none⟩ a2).setCell ⟨M, 2, none⟩ a3).setCell ⟨M, 3, none⟩ a4) B T n L H vp vs vw vh := by
 have t := (((Touch.refl (fun b => b = M) w).trans (Touch.of_set (P := fun b => b = M) _ (a := ⟨M, 0, none⟩) rfl a1)).trans (Touch.of_set (P := fun b => b = M) _ (a := ⟨M, 1, none⟩) rfl a2)).trans (Touch.of_set (P := fun b => b = M) _ (a := ⟨M, 2, none⟩) rfl a3)
 exact o.touch (t.trans (Touch.of_set (P := fun b => b = M) _ (a := ⟨M, 3, none⟩) rfl a4)) fun b e => .inr (by omega)
theorem Own1.base {B B' T T' : Nat} (o : Own1 w B T n L H vp vs vw vh) (hB : B' <= B) (hT : T' = T) : Own1 w B' T' n L H vp vs vw vh := by
 subst hT
 obtain ⟨c, up, us, o, h⟩ := o
 exact ⟨c, up, us, ⟨o.p.mono fun j hj _ => ⟨zP hB hj.1, hj.2⟩, o.s.mono fun j hj _ => ⟨zP hB hj.1, hj.2⟩, o.t.mono fun j hj _ => ⟨zP hB hj.1, hj.2⟩, o.h.mono fun j hj _ => ⟨zP hB hj.1, hj.2⟩⟩, h⟩
def nwX (pa : Option Addr) (n pc : Nat) (A : Nat -> Option Addr) (L C : Nat -> Nat) (H : Nat -> Nat -> I5) (vs vw vh : Value) (us : Nat -> Value) : SysIn :=
 ⟨pa, n, pc, A, L, C, H, adOf vs, n, cpOf vs, fun i => ⟨0, adOf (fdOf (us i) 1), cpOf (fdOf (us i) 1), [0, 0, 0, 0], adOf (fdOf (us i) 2), cpOf (fdOf (us i) 2), [], 0⟩, adOf vw, n * n, cpOf vw, fun _ => none, fun _ => 0, fun _ => 0, fun _ _ => ⟨false, 0⟩, adOf vh, n, cpOf vh, fun _ => none, fun _ => 0, fun _ => 0, fun _ _ => ⟨0, 0, 0⟩⟩
theorem nwX_g {P1 P3 P4 : Nat -> Prop} {pa : Option Addr} {pc : Nat} {A : Nat -> Option Addr} {C : Nat -> Nat} (hs : LS w P1 vs n us fun _ => newS) (ht : ZL 124 w P3 vw (n * n)) (hh : ZL 35 w P4 vh n) (hr : RowS w pa n fun i => .slice (A i) (L i) (C i)) (hI : ∀ i, i < n -> ∃ b, A i = some ⟨b, 0, none⟩ /\ b < w.heap.size /\ InsAt w b 0 (L i) (H i)) : SysG w (nwX pa n pc A L C H vs vw vh us) := by
 refine ⟨hr, hI, ⟨?_, fun i hi => ?_⟩, ht.rowS, fun i hi => .inl rfl, hh.rowS, fun i hi => .inl rfl⟩
 ·rcases Nat.eq_zero_or_pos n with h0 | h0
  ·exact .inl h0
  ·obtain ⟨g, cap, rfl, -, hg, -, -⟩ := hs.cell h0
   refine .inr ⟨g, 0, rfl, hg, fun i hi => ?_⟩
   obtain ⟨g', cap', ew, -, -, hc, -⟩ := hs.cell hi
   simp only [Value.slice.injEq, Option.some.injEq, Addr.mk.injEq, and_true, true_and] at ew
   obtain ⟨rfl, rfl⟩ := ew
   obtain ⟨ra, rc, oa, oc, eu, h0, h1, h2, h3⟩ := hc
   show w.cell? ⟨g, 0 + i * 4, none⟩ = some (.int .i64 0) /\ w.cell? ⟨g, 0 + i * 4 + 1, none⟩ = some (.slice (adOf (fdOf (us i) 1)) 4 (cpOf (fdOf (us i) 1))) /\ w.cell? ⟨g, 0 + i * 4 + 2, none⟩ = some (.slice (adOf (fdOf (us i) 2)) 0 (cpOf (fdOf (us i) 2))) /\ w.cell? ⟨g, 0 + i * 4 + 3, none⟩ = some (.int .i64 0)
   rw [Nat.zero_add, eu]
   exact ⟨h0, h1, h2, h3⟩
 ·obtain ⟨g, cap, -, -, -, ⟨ra, rc, oa, oc, eu, -⟩, -⟩ := hs.cell hi
  have h4 := hs.own i hi
  rw [eu] at h4
  show Sl w (adOf (fdOf (us i) 1)) [0, 0, 0, 0] /\ Sl w (adOf (fdOf (us i) 2)) []
  rw [eu]
  exact ⟨h4.parts.1.slOf, h4.parts.2.1.slOf⟩
theorem NwS.g {pa : Option Addr} {pc : Nat} {A : Nat -> Option Addr} {C : Nat -> Nat} (h : NwS W1 N n L H own n w vp vs vw vh c up us) (hr : RowS w pa n fun i => .slice (A i) (L i) (C i)) (hI : ∀ i, i < n -> ∃ b, A i = some ⟨b, 0, none⟩ /\ b < w.heap.size /\ InsAt w b 0 (L i) (H i)) : SysG w (nwX pa n pc A L C H vs vw vh us) :=
 nwX_g h.s h.t h.h hr hI
theorem nwX_len {pa : Option Addr} {pc : Nat} {A : Nat -> Option Addr} {C : Nat -> Nat} (hn : n <= 4) (hL : ∀ i, i < n -> L i <= 1048576) : (nwX pa n pc A L C H vs vw vh us).Len := by
 have h16 : n * n <= 16 := zP (Nat.mul_le_mul hn hn) (by omega)
 exact ⟨⟨by show n <= 1048576; omega, hL⟩, ⟨by show n <= 1048576; omega, fun i _ => ⟨by show 4 <= 1048576; omega, by show 0 <= 1048576; omega⟩⟩, ⟨by show n * n <= 1048576; omega, fun i _ => Nat.zero_le _⟩, ⟨by show n <= 1048576; omega, fun i _ => Nat.zero_le _⟩⟩
end
open Go.Sort
noncomputable def pB (p : Prop) : Bool := @decide p (Classical.propDecidable _)
theorem pB_true {p : Prop} (h : p) : pB p = true := by simp [pB, h]
theorem pB_false {p : Prop} (h : ¬ p) : pB p = false := by simp [pB, h]
theorem specSameState_any (S T : S4) (ra oa ra' oa' : Option Addr) (rc oc rc' oc' : Nat) (w : World) (l1 : S.rs.length <= 1048576) (l2 : S.os.length <= 1048576) (_l3 : T.rs.length <= 1048576) (_l4 : T.os.length <= 1048576) (h1 : Sl w ra S.rs) (h2 : Sl w oa S.os) (h3 : Sl w ra' T.rs) (h4 : Sl w oa' T.os) :
  Calls Tryz.prog 114 #[stV S.p ra S.rs.length rc oa S.os.length oc S.c, stV T.p ra' T.rs.length rc' oa' T.os.length oc' T.c] w fun e w' => e = .returned (.bool (eqS S T)) /\ Below w.heap.size w w' := by
 have l1' : (S.rs.length : Int) <= 1048576 := by omega
 have l2' : (S.os.length : Int) <= 1048576 := by omega
 have H1 : Hid (Sl w ra S.rs /\ Sl w ra' T.rs) := ⟨h1, h3⟩
 have H2 : Hid (Sl w oa S.os /\ Sl w oa' T.os) := ⟨h2, h4⟩
 clear h1 h2 h3 h4 l1 l2
 rcases zK (S.p != T.p) with t1 | t1
 case inl =>
  have HE : Hid (eqS S T = false) := by
   show eqS S T = false
   have : (S.p == T.p) = false := by simpa using t1
   simp [eqS, this]
  go_enter Tryz.func114, Tryz.ntmps114
  go_wp2
  go_ret
  rw [HE.out]
  exact ⟨rfl, by go_grown⟩
 rcases zK (S.c != T.c) with t2 | t2
 case inl =>
  have HE : Hid (eqS S T = false) := by
   show eqS S T = false
   have : (S.c == T.c) = false := by simpa using t2
   simp [eqS, this]
  go_enter Tryz.func114, Tryz.ntmps114
  go_wp2
  go_ret
  rw [HE.out]
  exact ⟨rfl, by go_grown⟩
 rcases zK ((S.rs.length : Int) != (T.rs.length : Int)) with t3 | t3
 case inl =>
  have HE : Hid (eqS S T = false) := by
   show eqS S T = false
   have : (S.rs == T.rs) = false := by
    rw [beq_eq_false_iff_ne]
    intro e
    rw [e] at t3
    simp at t3
   simp [eqS, this]
  go_enter Tryz.func114, Tryz.ntmps114
  go_wp2
  go_ret
  rw [HE.out]
  exact ⟨rfl, by go_grown⟩
 rcases zK ((S.os.length : Int) != (T.os.length : Int)) with t4 | t4
 case inl =>
  have HE : Hid (eqS S T = false) := by
   show eqS S T = false
   have : (S.os == T.os) = false := by
    rw [beq_eq_false_iff_ne]
    intro e
    rw [e] at t4
    simp at t4
   simp [eqS, this]
  go_enter Tryz.func114, Tryz.ntmps114
  go_wp2
  go_ret
  rw [HE.out]
  exact ⟨rfl, by go_grown⟩
 have HE : Hid (eqS S T = ((S.rs == T.rs) && (S.os == T.os)) /\ S.rs.length = T.rs.length /\ S.os.length = T.os.length) := by
  have e1 : (S.p == T.p) = true := by simpa using t1
  have e2 : (S.c == T.c) = true := by simpa using t2
  have e3 : S.rs.length = T.rs.length := by simp at t3; omega
  have e4 : S.os.length = T.os.length := by simp at t4; omega
  refine ⟨?_, e3, e4⟩
  show eqS S T = _
  simp [eqS, e1, e2]
 have N1 : Hid (BoxC ((w.alloc (oQ2 S.p ra S.rs.length rc oa S.os.length oc S.c)).alloc (oQ2 T.p ra' T.rs.length rc' oa' T.os.length oc' T.c)) w.heap.size (.int .i64 S.p) (.slice ra S.rs.length rc) (.slice oa S.os.length oc) (.int .i64 S.c)) := (BoxC.new w _ _ _ _ _).below (zT _ _)
 have N2 : Hid (BoxC ((w.alloc (oQ2 S.p ra S.rs.length rc oa S.os.length oc S.c)).alloc (oQ2 T.p ra' T.rs.length rc' oa' T.os.length oc' T.c)) (w.heap.size + 1) (.int .i64 T.p) (.slice ra' T.rs.length rc') (.slice oa' T.os.length oc') (.int .i64 T.c)) := by
  have h := BoxC.new (w.alloc (oQ2 S.p ra S.rs.length rc oa S.os.length oc S.c)) (.int .i64 T.p) (.slice ra' T.rs.length rc') (.slice oa' T.os.length oc') (.int .i64 T.c) 39
  rw [World.size_alloc] at h
  exact h
 have NB : Hid (Below w.heap.size w ((w.alloc (oQ2 S.p ra S.rs.length rc oa S.os.length oc S.c)).alloc (oQ2 T.p ra' T.rs.length rc' oa' T.os.length oc' T.c))) := by
  show Below _ _ _
  go_grown
 go_enter Tryz.func114, Tryz.ntmps114
 go_wp2_with fail
 generalize (w.alloc (oQ2 S.p ra S.rs.length rc oa S.os.length oc S.c)).alloc (oQ2 T.p ra' T.rs.length rc' oa' T.os.length oc' T.c) = wb at *
 go_loopw [5] (fun i wr => ∃ k : Nat, k <= S.rs.length /\ i = .int .i64 k /\ Below wb.heap.size wb wr /\ Hid (∀ j, j < k -> zi S.rs j = zi T.rs j)) (fun i _ => S.rs.length - (intOf i).toNat)
 case atStart => exact ⟨0, Nat.zero_le _, rfl, Below.refl _ _, fun j hj => by omega⟩
 case round =>
  obtain ⟨k, hk, rfl, hbw, HZ⟩ := hrel
  have hw : Below w.heap.size w wr := NB.out.trans (hbw.mono NB.out.size)
  obtain ⟨n0, n1, n2, n3⟩ := N1.out.below hbw
  obtain ⟨m0, m1, m2, m3⟩ := N2.out.below hbw
  by_cases hlt : k < S.rs.length
  ·have hlt2 : k < T.rs.length := by have := HE.out; omega
   obtain ⟨b, off, rfl, hbl, ck⟩ := (H1.out.1.below hw).at hlt
   obtain ⟨b', off', rfl, hbl', ck'⟩ := (H1.out.2.below hw).at hlt2
   have hlt' : (k : Int) < (S.rs.length : Int) := by omega
   have hlt2' : (k : Int) < (T.rs.length : Int) := by omega
   clear hlt2
   rcases zK (zi S.rs k != zi T.rs k) with t | t
   ·have HN : Hid (eqS S T = false) := by
     show eqS S T = false
     rw [HE.out.1]
     have : (S.rs == T.rs) = false := by
      rw [beq_eq_false_iff_ne]
      intro e
      rw [e] at t
      simp at t
     rw [this, Bool.false_and]
    go_wp2_with fail
    go_quiet (fail)
    go_wp2
    go_ret
    rw [HN.out]
    exact ⟨rfl, yC hw _⟩
   ·have HZ' : Hid (∀ j, j < k + 1 -> zi S.rs j = zi T.rs j) := fun j hj => by
     by_cases e : j = k
     ·subst e
      simpa using t
     ·exact HZ.out j (by omega)
    clear HZ
    go_wp2_with fail
    go_quiet (fail)
    go_wp2
    go_roundw
    case rel => exact ⟨k + 1, by omega, by go_num, yC hbw _, HZ'.out⟩
    case measure => simp [intOf]; omega
  ·have HR : Hid ((S.rs == T.rs) = true) := by
    show (S.rs == T.rs) = true
    rw [beq_iff_eq]
    exact list_of_zi HE.out.2.1 fun j hj => HZ.out j (by omega)
   have hkl : k = S.rs.length := by omega
   subst hkl
   clear HZ hlt hk
   go_wp2_with fail
   clear n0 n1 n2 n3 m0 m1 m2 m3
   go_loopw [6] (fun i wr => ∃ k : Nat, k <= S.os.length /\ i = .int .i64 k /\ Below wb.heap.size wb wr /\ Hid (∀ j, j < k -> zi S.os j = zi T.os j)) (fun i _ => S.os.length - (intOf i).toNat)
   case atStart => exact ⟨0, Nat.zero_le _, rfl, hbw, fun j hj => by omega⟩
   case round =>
    clear hbw hw
    obtain ⟨k, hk, rfl, hbw, HZ⟩ := hrel
    have hw : Below w.heap.size w wr := NB.out.trans (hbw.mono NB.out.size)
    obtain ⟨n0, n1, n2, n3⟩ := N1.out.below hbw
    obtain ⟨m0, m1, m2, m3⟩ := N2.out.below hbw
    by_cases hlt : k < S.os.length
    ·have hlt2 : k < T.os.length := by have := HE.out; omega
     obtain ⟨b, off, rfl, hbl, ck⟩ := (H2.out.1.below hw).at hlt
     obtain ⟨b', off', rfl, hbl', ck'⟩ := (H2.out.2.below hw).at hlt2
     have hlt' : (k : Int) < (S.os.length : Int) := by omega
     have hlt2' : (k : Int) < (T.os.length : Int) := by omega
     clear hlt2
     rcases zK (zi S.os k != zi T.os k) with t | t
     ·have HN : Hid (eqS S T = false) := by
       show eqS S T = false
       rw [HE.out.1]
       have : (S.os == T.os) = false := by
        rw [beq_eq_false_iff_ne]
        intro e
        rw [e] at t
        simp at t
       rw [this, Bool.and_false]
      go_wp2_with fail
      go_quiet (fail)
      go_wp2
      go_ret
      rw [HN.out]
      exact ⟨rfl, yC hw _⟩
     ·have HZ' : Hid (∀ j, j < k + 1 -> zi S.os j = zi T.os j) := fun j hj => by
       by_cases e : j = k
       ·subst e
        simpa using t
       ·exact HZ.out j (by omega)
      clear HZ
      go_wp2_with fail
      go_quiet (fail)
      go_wp2
      go_roundw
      case rel => exact ⟨k + 1, by omega, by go_num, yC hbw _, HZ'.out⟩
      case measure => simp [intOf]; omega
    ·have HN : Hid (eqS S T = true) := by
      show eqS S T = true
      rw [HE.out.1, HR.out, Bool.true_and, beq_iff_eq]
      exact list_of_zi HE.out.2.2 fun j hj => HZ.out j (by omega)
     clear HZ
     go_wp2
     go_ret
     rw [HN.out]
     exact ⟨rfl, hw⟩
structure LWay (h : Nat -> I2) (len : Nat) (sent : List Int) (t : Nat) : Prop where
 it : ∀ i, i < len -> itemB (h i) = true
 le : len <= 12
 ln : sent.length = t + (numL h len).length
 eq : ∀ j, j < (numL h len).length -> zi (numL h len) j = zi sent (t + j)
theorem zi_append_left {xs ys : List Int} {j : Nat} (h : j < xs.length) : zi (xs ++ ys) j = zi xs j := by
 simp [zi, List.getD_eq_getElem?_getD, List.getElem?_append_left h]
theorem zi_append_right {xs ys : List Int} {j : Nat} : zi (xs ++ ys) (xs.length + j) = zi ys j := by
 simp [zi, List.getD_eq_getElem?_getD, List.getElem?_append_right]
theorem LWay.iff {h : Nat -> I2} {len : Nat} {took sent : List Int} : (LWay h len sent took.length /\ ∀ i, i < took.length -> zi took i = zi sent i) ↔ WayP h len took sent := by
 refine ⟨fun ⟨a, b⟩ => ⟨a.it, a.le, ?_⟩, fun a => ⟨⟨a.it, a.le, by rw [<- a.eq, List.length_append], fun j _ => by rw [<- a.eq, zi_append_right]⟩, fun i hi => by rw [<- a.eq, zi_append_left hi]⟩⟩
 refine list_of_zi (by rw [List.length_append, a.ln]) fun j hj => ?_
 by_cases hl : j < took.length
 ·rw [zi_append_left hl, b j hl]
 ·rw [List.length_append] at hj
  have e : j = took.length + (j - took.length) := by omega
  rw [e, zi_append_right]
  exact a.eq _ (by omega)
theorem l4Way_any (a : Option Addr) (len cap : Nat) (h : Nat -> I2) (sa : Option Addr) (sc : Nat) (sent : List Int) (t : Nat) (w : World) (hlen : len <= 1048576) (hc : ItL w a len h) (hs : sent.length <= 1048576) (hS : Sl w sa sent) (ht : t <= 1048576) :
  Calls Tryz.prog 116 #[.slice a len cap, .slice sa sent.length sc, .int .i64 t] w fun e w' => e = .returned (.bool (pB (LWay h len sent t))) /\ Below w.heap.size w w' := by
 have hl' : (len : Int) <= 1048576 := by omega
 have hs' : (sent.length : Int) <= 1048576 := by omega
 have ht' : (t : Int) <= 1048576 := by omega
 have HC : Hid (ItL w a len h) := hc
 have HS : Hid (Sl w sa sent) := hS
 clear hc hS
 go_enter Tryz.func116, Tryz.ntmps116
 go_wp2_with fail
 go_loopw [7] (fun i wr => ∃ k : Nat, k <= len /\ i = .int .i64 k /\ Below w.heap.size w wr /\ Hid (∀ j, j < k -> itemB (h j) = true)) (fun i _ => len - (intOf i).toNat)
 case atStart => exact ⟨0, Nat.zero_le _, rfl, Below.refl _ _, fun j hj => by omega⟩
 case round =>
  obtain ⟨k, hk, rfl, hbw, HZ⟩ := hrel
  by_cases hlt : k < len
  ·have hlt' : (k : Int) < (len : Int) := by omega
   obtain ⟨b, off, rfl, -, c0, c1⟩ := (HC.out.below hbw).at hlt
   have hN : ∀ {x : Bool}, inB (h k).v (-1000000000) 1000000000 = x -> numB (h k).v = x := fun e => e
   rcases zK (inB (h k).v (-1000000000) 1000000000) with t1 | t1
   ·have go_on : itemB (h k) = true -> Hid (∀ j, j < k + 1 -> itemB (h j) = true) := fun t j hj => by
     by_cases e : j = k
     ·subst e
      exact t
     ·exact HZ.out j (by omega)
    have stop : itemB (h k) = false -> Hid (pB (LWay h len sent t) = false) := fun t => pB_false fun x => by
     have := x.it k hlt
     rw [t] at this
     cases this
    rcases zK (h k).m with t2 | t2
    ·rcases zK ((h k).v != 0) with t3 | t3
     ·have HN := stop (by
       have : ((h k).v == 0) = false := by simpa using t3
       simp [itemB, t2, this])
      rw [t2] at c0
      clear go_on stop HZ hN
      go_wp2_with fail
      refine (l1Num_any _ _).mono ?_
      rintro e w1 ⟨rfl, rfl⟩
      rw [t1]
      go_wp2
      go_ret
      rw [HN.out]
      exact ⟨rfl, hbw⟩
     ·have HZ' := go_on (by
       have : ((h k).v == 0) = true := by simpa using t3
       simp [itemB, hN t1, this])
      rw [t2] at c0
      clear go_on stop HZ hN
      go_wp2_with fail
      refine (l1Num_any _ _).mono ?_
      rintro e w1 ⟨rfl, rfl⟩
      rw [t1]
      go_wp2
      go_roundw
      case rel => exact ⟨k + 1, by omega, by go_num, hbw, HZ'.out⟩
      case measure => simp [intOf]; omega
    ·have HZ' := go_on (by simp [itemB, hN t1, t2])
     rw [t2] at c0
     clear go_on stop HZ hN
     go_wp2_with fail
     refine (l1Num_any _ _).mono ?_
     rintro e w1 ⟨rfl, rfl⟩
     rw [t1]
     go_wp2
     go_roundw
     case rel => exact ⟨k + 1, by omega, by go_num, hbw, HZ'.out⟩
     case measure => simp [intOf]; omega
   ·have HN : Hid (pB (LWay h len sent t) = false) := pB_false fun x => by
     have := x.it k hlt
     simp [itemB, hN t1] at this
    clear HZ hN
    go_wp2_with fail
    refine (l1Num_any _ _).mono ?_
    rintro e w1 ⟨rfl, rfl⟩
    rw [t1]
    go_wp2
    go_ret
    rw [HN.out]
    exact ⟨rfl, hbw⟩
  ·have HZ' : Hid (∀ j, j < len -> itemB (h j) = true) := fun j hj => HZ.out j (by omega)
   have hkl : k = len := by omega
   subst hkl
   clear HZ hlt hk
   go_wp2_with fail
   refine (specNumbers_l a k cap h wr hlen (HC.out.below hbw)).mono ?_
   rintro e w1 ⟨v, rfl, o1, b1⟩
   obtain ⟨na, nc, rfl, s1⟩ := o1.form
   have B1 : Hid (Below w.heap.size w w1) := hbw.trans (b1.mono hbw.size)
   have S1 : Hid (Sl w1 na (numL h k)) := s1
   have hnl := numL_le h k
   have hnl' : ((numL h k).length : Int) <= 1048576 := by omega
   clear o1 b1 s1 hbw
   generalize hNU : numL h k = nu at *
   have HNU : Hid (numL h k = nu) := hNU
   clear hNU hnl
   by_cases h12 : k <= 12
   case neg =>
    have h12' : (12 : Int) < (k : Int) := by omega
    have HN : Hid (pB (LWay h k sent t) = false) := pB_false fun x => h12 x.le
    go_wp2
    go_ret
    rw [HN.out]
    exact ⟨rfl, B1.out⟩
   have h12' : ¬ (12 : Int) < (k : Int) := by omega
   rcases zK (((sent.length : Int) - (t : Int)) != (nu.length : Int)) with t5 | t5
   ·have HN : Hid (pB (LWay h k sent t) = false) := pB_false fun x => by
     have := x.ln
     rw [HNU.out] at this
     rw [this] at t5
     simp at t5
     omega
    go_wp2
    go_ret
    rw [HN.out]
    exact ⟨rfl, B1.out⟩
   have HLN : Hid (sent.length = t + nu.length) := by
    show sent.length = t + nu.length
    simp at t5
    omega
   go_wp2_with fail
   go_loopw [9] (fun i wr => ∃ j : Nat, j <= nu.length /\ i = .int .i64 j /\ Below w1.heap.size w1 wr /\ Hid (∀ i, i < j -> zi nu i = zi sent (t + i))) (fun i _ => nu.length - (intOf i).toNat)
   case atStart => exact ⟨0, Nat.zero_le _, rfl, Below.refl _ _, fun j hj => by omega⟩
   case round =>
    obtain ⟨j, hj, rfl, hbw, HZ⟩ := hrel
    have hw : Below w.heap.size w wr := B1.out.trans (hbw.mono B1.out.size)
    by_cases hlt : j < nu.length
    ·have hlt2 : t + j < sent.length := by have := HLN.out; omega
     obtain ⟨b, off, rfl, hbl, ck⟩ := (S1.out.below hbw).at hlt
     obtain ⟨b', off', rfl, hbl', ck'⟩ := (HS.out.below hw).at hlt2
     have hlt' : (j : Int) < (nu.length : Int) := by omega
     have hlt2' : (t : Int) + (j : Int) < (sent.length : Int) := by omega
     have hq : ((t : Int) + (j : Int)).toNat = t + j := by omega
     clear hlt2
     rcases zK (zi nu j != zi sent (t + j)) with t6 | t6
     ·have HN : Hid (pB (LWay h k sent t) = false) := pB_false fun x => by
       have := x.eq j (by rw [HNU.out]; exact hlt)
       rw [HNU.out] at this
       rw [this] at t6
       simp at t6
      go_wp2_with fail
      go_quiet (fail)
      go_wp2
      go_ret
      rw [HN.out]
      exact ⟨rfl, yC hw _⟩
     ·have HZ2 : Hid (∀ i, i < j + 1 -> zi nu i = zi sent (t + i)) := fun i hi => by
       by_cases e : i = j
       ·subst e
        simpa using t6
       ·exact HZ.out i (by omega)
      clear HZ
      go_wp2_with fail
      go_quiet (fail)
      go_wp2
      go_roundw
      case rel => exact ⟨j + 1, by omega, by go_num, yC hbw _, HZ2.out⟩
      case measure => simp [intOf]; omega
    ·have HN : Hid (pB (LWay h k sent t) = true) := pB_true ⟨HZ'.out, h12, by rw [HNU.out]; exact HLN.out, fun i hi => by
      rw [HNU.out] at hi ⊢
      exact HZ.out i (by omega)⟩
     clear HZ
     go_wp2
     go_ret
     rw [HN.out]
     exact ⟨rfl, hw⟩
theorem LL.weak {z : Bool} {e : TypeId} {sz : Nat} {E : TypeId} {w : World} {P : Nat -> Prop} {v : Value} {n : Nat} {u : Nat -> Value} {L : Nat -> Nat} {c : Nat -> List Value} (o : LL z e sz E w P v n u L c) : LL false e sz E w P v n u L c :=
 ⟨o.row, o.own, o.rb, o.ob, o.ra, o.oa, fun h i hi => o.nn (h.elim (fun h => by cases h) .inr) i hi⟩
theorem OwnS.weak {z : Bool} {w : World} {B : Nat} {c : Nat -> Nat} {y : Sy} {vp vs vw vh : Value} {up us uw uh : Nat -> Value} (o : OwnS z w B c y vp vs vw vh up us uw uh) : OwnS false w B c y vp vs vw vh up us uw uh := ⟨o.p.weak, o.s, o.t.weak, o.h.weak⟩
theorem ZL.ll {e : TypeId} {sz : Nat} {E : TypeId} {w : World} {P : Nat -> Prop} {v : Value} {n : Nat} (o : ZL E w P v n) (he : e ≠ 99) (c : Nat -> List Value) (hc : ∀ i, c i = []) : LL false e sz E w P v n (fun _ => .slice none 0 0) (fun _ => 0) c :=
 ⟨(by rw [List.map_const']; simpa using o.row), fun i _ => by rw [hc]; exact World.ownsRow_nil _ _ _ _, o.rb, fun i _ k hk => (by cases hk), fun i _ k hk => (by cases hk), fun i j _ _ _ k hk => (by cases hk), fun h _ _ => h.elim (fun h => by cases h) (fun h => absurd h he)⟩
def tkC (x : SysIn) (p : Nat) (f : Int) : Int := if belB f x.pn = true then (if x.wL (f.toNat * x.pn + p) = 0 then 3 else if (x.wH (f.toNat * x.pn + p) 0).m = true then 5 else 0) else 2
def tkV (x : SysIn) (p : Nat) (f : Int) : Value := if tkC x p f = 0 then evV 3 f (x.wH (f.toNat * x.pn + p) 0).v else evV 0 0 0
theorem takeOf_any (x : SysIn) (p : Nat) (f : Int) (w : World) (hG : SysG w x) (hL : x.Len) (hp : p < x.pn) (h4 : x.pn <= 4) (hw : x.wn = x.pn * x.pn) :
  Calls Tryz.prog 102 #[x.v, .int .i64 p, .int .i64 f] w fun e w' => e = .returned (.tuple #[tkV x p f, .int .i64 (tkC x p f)]) /\ Below w.heap.size w w' := by
 have HG : Hid (SysG w x) := hG
 rcases zK (belB f x.pn) with t1 | t1
 case inr =>
  have HN : Hid (tkC x p f = 2 /\ tkV x p f = evV 0 0 0) := by
   have : tkC x p f = 2 := by simp [tkC, t1]
   exact ⟨this, by simp [tkV, this]⟩
  rw [HN.out.1, HN.out.2]
  go_enter Tryz.func102, Tryz.ntmps102
  go_wp2_with fail
  refine (isBelow_any _ _ _).mono ?_
  rintro e w1 ⟨rfl, rfl⟩
  rw [t1]
  go_wp2
  exact bodyPost_ret (v := .tuple #[evV 0 0 0, .int .i64 2]) (by simp [results, Tryz.results102, go_sem]) rfl ⟨rfl, by go_grown⟩
 obtain ⟨q, rfl, hq⟩ : ∃ q : Nat, f = (q : Int) /\ q < x.pn := by
  simp only [belB, decide_eq_true_eq] at t1
  exact ⟨f.toNat, by omega, by omega⟩
 have hJ : q * x.pn + p < x.wn := by
  rw [hw]
  have : (q + 1) * x.pn <= x.pn * x.pn := Nat.mul_le_mul_right _ (by omega)
  rw [Nat.add_mul] at this
  omega
 have HI : Hid (ItL w (x.wA (q * x.pn + p)) (x.wL (q * x.pn + p)) (x.wH (q * x.pn + p)) /\ x.wL (q * x.pn + p) <= 1048576) := ⟨hG.wi _ hJ, hL.w.2 _ hJ⟩
 have HWq : Hid (∀ wx, Below w.heap.size w wx -> Calls Tryz.prog 108 #[x.v, .int .i64 q, .int .i64 p] wx fun e w' => e = .returned (.agg #[.slice (x.wA (q * x.pn + p)) (x.wL (q * x.pn + p)) (x.wC (q * x.pn + p)), .int .i64 12]) /\ Below wx.heap.size wx w') := fun wx hb => wayQueue_any x q p wx (HG.out.below hb) (by omega) (by omega) h4 hJ
 have HT : Hid (tkC x p q = (if x.wL (q * x.pn + p) = 0 then 3 else if (x.wH (q * x.pn + p) 0).m = true then 5 else 0) /\ tkV x p q = if tkC x p q = 0 then evV 3 q (x.wH (q * x.pn + p) 0).v else evV 0 0 0) := by
  refine ⟨?_, rfl⟩
  show tkC x p q = _
  unfold tkC
  rw [if_pos t1]
  rfl
 generalize tkV x p q = V at *
 generalize tkC x p q = C at *
 generalize q * x.pn + p = J at *
 have BW : Hid (Below w.heap.size w ((w.alloc (oQ4 x.pa x.pn x.pc x.sa x.sn x.sc x.wa x.wn x.wc x.ha x.hn x.hc)).alloc (zQ6))) := (zT _ _).trans ((zT _ _).mono (by simp))
 have RX : Hid (Ev3 ((w.alloc (oQ4 x.pa x.pn x.pc x.sa x.sn x.sc x.wa x.wn x.wc x.ha x.hn x.hc)).alloc (zQ6)) (w.heap.size + 1)) := ⟨⟨_, zW _ _ _ 0 (by simp)⟩, ⟨_, zW _ _ _ 1 (by simp)⟩, ⟨_, zW _ _ _ 2 (by simp)⟩, fun j => yB _ _ _ _ (by simp)⟩
 clear hG hL hw hJ
 go_enter Tryz.func102, Tryz.ntmps102
 go_wp2_with fail
 refine (isBelow_any _ _ _).mono ?_
 rintro e w1 ⟨rfl, rfl⟩
 rw [t1]
 go_wp2_with fail
 generalize (w.alloc (oQ4 x.pa x.pn x.pc x.sa x.sn x.sc x.wa x.wn x.wc x.ha x.hn x.hc)).alloc (zQ6) = W2 at *
 refine (HWq.out W2 BW.out).mono ?_
 rintro e w3 ⟨rfl, b3⟩
 have B3 : Hid (Below w.heap.size w w3 /\ Ev3 w3 (w.heap.size + 1)) := ⟨BW.out.trans (b3.mono BW.out.size), RX.out.below b3⟩
 clear b3
 go_wp2_with fail
 refine (first_any (x.wA J) (x.wL J) _ 12 (x.wH J) w3 HI.out.2 (HI.out.1.below B3.out.1)).mono ?_
 rintro e w4 ⟨rfl, b4⟩
 have B4 : Hid (Below w.heap.size w w4 /\ Ev3 w4 (w.heap.size + 1)) := ⟨B3.out.1.trans (b4.mono B3.out.1.size), B3.out.2.below b4⟩
 clear b4 B3
 obtain ⟨⟨v0, r0⟩, ⟨v1, r1⟩, ⟨v2, r2⟩, rf⟩ := B4.out.2
 have hS : ∀ (a b c : Value), Below w.heap.size w (((w4.setCell ⟨w.heap.size + 1, 0, none⟩ a).setCell ⟨w.heap.size + 1, 1, none⟩ b).setCell ⟨w.heap.size + 1, 2, none⟩ c) := fun a b c => ((B4.out.1.setCell (Nat.le_succ _) _).setCell (Nat.le_succ _) _).setCell (Nat.le_succ _) _
 have HS : Hid (∀ (o : Obj) (a b c : Value), Below w.heap.size w ((((w4.setCell ⟨w.heap.size + 1, 0, none⟩ a).setCell ⟨w.heap.size + 1, 1, none⟩ b).setCell ⟨w.heap.size + 1, 2, none⟩ c).alloc o)) := fun o a b c => (hS a b c).trans ((zT _ _).mono (hS a b c).size)
 have z4 : w.heap.size + 1 < w4.heap.size := zJ w4 _ r0
 clear hS
 by_cases h0 : x.wL J = 0
 ·have HV : Hid (C = 3 /\ V = evV 0 0 0) := by
   have h1 : C = 3 := by rw [HT.out.1, if_pos h0]
   exact ⟨h1, by rw [HT.out.2, if_neg (by rw [h1]; decide)]⟩
  rw [if_pos h0, show decide (x.wL J ≠ 0) = false from decide_eq_false (by omega)]
  clear h0
  go_wp2
  exact bodyPost_ret (v := .tuple #[evV 0 0 0, .int .i64 3]) (by simp [results, Tryz.results102, go_sem, r0, r1, r2, z4]) rfl ⟨by rw [HV.out.1, HV.out.2], HS.out _ _ _ _⟩
 rw [if_neg h0, show decide (x.wL J ≠ 0) = true from decide_eq_true h0]
 rcases zK (x.wH J 0).m with hm | hm
 ·have HV : Hid (C = 5 /\ V = evV 0 0 0) := by
   have h1 : C = 5 := by rw [HT.out.1, if_neg h0, if_pos hm]
   exact ⟨h1, by rw [HT.out.2, if_neg (by rw [h1]; decide)]⟩
  rw [hm]
  clear h0
  go_wp2
  exact bodyPost_ret (v := .tuple #[evV 0 0 0, .int .i64 5]) (by simp [results, Tryz.results102, go_sem, r0, r1, r2, z4]) rfl ⟨by rw [HV.out.1, HV.out.2], HS.out _ _ _ _⟩
 ·have HV : Hid (C = 0 /\ V = evV 3 q (x.wH J 0).v) := by
   have h1 : C = 0 := by rw [HT.out.1, if_neg h0, if_neg (by rw [hm]; decide)]
   exact ⟨h1, by rw [HT.out.2, if_pos h1]⟩
  rw [hm]
  clear h0
  go_wp2
  exact bodyPost_ret (v := .tuple #[evV 3 q (x.wH J 0).v, .int .i64 0]) (by simp [results, Tryz.results102, go_sem, r0, r1, r2, z4]) rfl ⟨by rw [HV.out.1, HV.out.2], HS.out _ _ _ _⟩
def fuB (x : SysIn) (p : Nat) (k q : Int) : Bool := decide (200 <= x.hL p) || (k == 2 && decide (12 <= x.wL (p * x.pn + q.toNat)))
theorem isFullFor_any (x : SysIn) (p : Nat) (k q v : Int) (w : World) (hG : SysG w x) (hp : p < x.pn) (h4 : x.pn <= 4) (hh : x.hn = x.pn) (hw : x.wn = x.pn * x.pn) (hq : k = 2 -> 0 <= q /\ q < x.pn) :
  Calls Tryz.prog 104 #[x.v, .int .i64 p, evV k q v] w fun e w' => e = .returned (.bool (fuB x p k q)) /\ Below w.heap.size w w' := by
 have HG : Hid (SysG w x) := hG
 have HEq : Hid (∀ wx, Below w.heap.size w wx -> Calls Tryz.prog 106 #[x.v, .int .i64 p] wx fun e w' => e = .returned (.agg #[.slice (x.hA p) (x.hL p) (x.hC p), .int .i64 200]) /\ Below wx.heap.size wx w') := fun wx hb => eventQueue_any x p wx (HG.out.below hb) (by omega)
 have NB : Hid (BoxC ((w.alloc (oQ4 x.pa x.pn x.pc x.sa x.sn x.sc x.wa x.wn x.wc x.ha x.hn x.hc)).alloc (oQ1 k q v)) w.heap.size (.slice x.pa x.pn x.pc) (.slice x.sa x.sn x.sc) (.slice x.wa x.wn x.wc) (.slice x.ha x.hn x.hc)) := (BoxC.new w _ _ _ _ _).below (zT _ _)
 have NE : Hid (((w.alloc (oQ4 x.pa x.pn x.pc x.sa x.sn x.sc x.wa x.wn x.wc x.ha x.hn x.hc)).alloc (oQ1 k q v)).cell? ⟨w.heap.size + 1, 0, none⟩ = some (.int .i64 k) /\ ((w.alloc (oQ4 x.pa x.pn x.pc x.sa x.sn x.sc x.wa x.wn x.wc x.ha x.hn x.hc)).alloc (oQ1 k q v)).cell? ⟨w.heap.size + 1, 1, none⟩ = some (.int .i64 q)) := ⟨zW _ _ _ 0 (by simp), zW _ _ _ 1 (by simp)⟩
 have BW : Hid (Below w.heap.size w ((w.alloc (oQ4 x.pa x.pn x.pc x.sa x.sn x.sc x.wa x.wn x.wc x.ha x.hn x.hc)).alloc (oQ1 k q v))) := (zT _ _).trans ((zT _ _).mono (by simp))
 have HW2 : Hid (x.wn = x.pn * x.pn) := hw
 clear hG hh hw
 go_enter Tryz.func104, Tryz.ntmps104
 go_wp2_with fail
 generalize (w.alloc (oQ4 x.pa x.pn x.pc x.sa x.sn x.sc x.wa x.wn x.wc x.ha x.hn x.hc)).alloc (oQ1 k q v) = W2 at *
 refine (HEq.out W2 BW.out).mono ?_
 rintro e w3 ⟨rfl, b3⟩
 have F3 : Hid (Below w.heap.size w w3 /\ Below W2.heap.size W2 w3) := ⟨BW.out.trans (b3.mono BW.out.size), b3⟩
 clear b3
 go_wp2_with fail
 refine (isFullEvent_any _ _ _ _ w3).mono ?_
 rintro e w4 ⟨rfl, b4⟩
 have F4 : Hid (Below w.heap.size w w4 /\ Below W2.heap.size W2 w4) := ⟨F3.out.1.trans (b4.mono F3.out.1.size), F3.out.2.trans (b4.mono F3.out.2.size)⟩
 clear b4 F3
 by_cases h200 : (200 : Int) <= (x.hL p : Int)
 ·have HN : Hid (fuB x p k q = true) := by
   show fuB x p k q = true
   simp [fuB, show 200 <= x.hL p by omega]
  rw [decide_eq_true h200]
  clear h200
  go_wp2
  go_ret
  rw [HN.out]
  exact ⟨rfl, F4.out.1⟩
 rw [decide_eq_false h200]
 have HN0 : Hid (fuB x p k q = (k == 2 && decide (12 <= x.wL (p * x.pn + q.toNat)))) := by
  show fuB x p k q = _
  simp [fuB, show ¬ 200 <= x.hL p by omega]
 have e0 := (F4.out.2.cell (p := ⟨w.heap.size + 1, 0, none⟩) (zJ W2 _ NE.out.1)).trans NE.out.1
 have e1 := (F4.out.2.cell (p := ⟨w.heap.size + 1, 1, none⟩) (zJ W2 _ NE.out.2)).trans NE.out.2
 clear h200
 rcases zK (k == 2) with t2 | t2
 ·have hk2 : k = 2 := by simpa using t2
  obtain ⟨j, rfl, hj⟩ : ∃ j : Nat, q = (j : Int) /\ j < x.pn := by
   have := hq hk2
   exact ⟨q.toNat, by omega, by omega⟩
  have hJ : p * x.pn + j < x.wn := by
   rw [HW2.out]
   have : (p + 1) * x.pn <= x.pn * x.pn := Nat.mul_le_mul_right _ (by omega)
   rw [Nat.add_mul] at this
   omega
  have HWq : Hid (∀ wx, Below w.heap.size w wx -> Calls Tryz.prog 108 #[x.v, .int .i64 p, .int .i64 j] wx fun e w' => e = .returned (.agg #[.slice (x.wA (p * x.pn + j)) (x.wL (p * x.pn + j)) (x.wC (p * x.pn + j)), .int .i64 12]) /\ Below wx.heap.size wx w') := fun wx hb => wayQueue_any x p j wx (HG.out.below hb) (by omega) (by omega) h4 hJ
  have HN : Hid (fuB x p k j = decide ((12 : Int) <= (x.wL (p * x.pn + j) : Int))) := by
   show fuB x p k j = _
   rw [HN0.out, t2, Bool.true_and]
   have : (j : Int).toNat = j := by omega
   rw [this]
   by_cases h : 12 <= x.wL (p * x.pn + j)
   ·rw [decide_eq_true h, decide_eq_true (by omega)]
   ·rw [decide_eq_false h, decide_eq_false (by omega)]
  rw [hk2] at e0
  generalize p * x.pn + j = J at *
  obtain ⟨k0, k1, k2, k3⟩ := NB.out.below F4.out.2
  clear hk2 t2 HN0 hq
  go_wp2_with fail
  refine (HWq.out w4 F4.out.1).mono ?_
  rintro e w5 ⟨rfl, b5⟩
  have F5 : Hid (Below w.heap.size w w5) := F4.out.1.trans (b5.mono F4.out.1.size)
  clear b5 k0 k1 k2 k3 e0 e1
  go_wp2_with fail
  refine (isFullItem_any _ _ _ _ w5).mono ?_
  rintro e w6 ⟨rfl, b6⟩
  have F6 : Hid (Below w.heap.size w w6) := F5.out.trans (b6.mono F5.out.size)
  clear b6
  go_wp2
  go_ret
  rw [HN.out]
  exact ⟨rfl, F6.out⟩
 ·have HN : Hid (fuB x p k q = false) := by
   show fuB x p k q = false
   rw [HN0.out, t2, Bool.false_and]
  clear HN0 hq
  go_wp2
  go_ret
  rw [HN.out]
  exact ⟨rfl, F4.out.1⟩
end Go.Proofs.YtcplnkhdclcgfaaGreatDoor
