/- Row, in the program, through. -/
import Derived.Test.YthdaejgmfognbaaGreatDoorXd0
import Derived.Test.YthdaejgmfognbaaGreatDoorXd46
import Derived.Test.YthdaejgmfognbaaGreatDoorXd39
import Derived.Test.YthdaejgmfognbaaGreatDoorXd14
namespace Go.Proofs.YthdaejgmfognbaaGreatDoor
set_option maxRecDepth 100000
set_option maxHeartbeats 2000000
open Go.ChangeShapes Go.WideShapes Go.ChangeAt Go.RowKit Go.Deep Go.Sort
def NxtL (w : World) (y : Hs) (d : Nat -> Nat) (e : Ending) (w' : World) : Prop :=
 Below w.heap.size w w' /\ ((∃ k, y.Least d k /\ e = .returned (.int .i64 (k : Nat))) \/ (e = .returned (.int .i64 (-1)) /\ ∀ p, p < y.n -> ¬ y.Can d p))
theorem next_l (X : Nat) (ha : Option Addr) (hc : Nat) (hA : Nat -> Option Addr) (hC : Nat -> Nat) (y : Hs) (d : Nat -> Nat) (w : World) (hE : HisE w ha hA hC y) (hP : HisQ w X ha hc y d) (h4 : y.n <= 4) (hp : y.Peers) (hl : ∀ i, i < y.n -> y.l i <= 200) (hd : ∀ i, d i <= y.l i) :
  Calls Tryz.prog 54 #[.pointer (some ⟨X, 0, none⟩)] w (NxtL w y d) := by
 have HE : Hid (HisE w ha hA hC y) := hE
 have HP : Hid (HisQ w X ha hc y d) := hP
 have HH : Hid (y.Peers /\ (∀ i, i < y.n -> y.l i <= 200) /\ ∀ i, d i <= y.l i) := ⟨hp, hl, hd⟩
 have hn : (y.n : Int) <= 4 := by omega
 obtain ⟨c4, -, -, -⟩ := hP
 clear hE hp hl hd
 go_enter Tryz.func54, Tryz.ntmps54
 go_wp2_with fail
 clear c4
 go_loopw [9] (fun i wr => ∃ k : Nat, k <= y.n /\ i = .int .i64 k /\ Below w.heap.size w wr /\ Hid (∀ j, j < k -> ¬ y.Can d j)) (fun i _ => y.n - (intOf i).toNat)
 case atStart => exact ⟨0, Nat.zero_le _, rfl, Below.refl _ _, fun j hj => by omega⟩
 case round =>
  obtain ⟨k, hk, rfl, hbw, HZ⟩ := hrel
  by_cases hlt : k < y.n
  ·have hlt' : (k : Int) < (y.n : Int) := by omega
   go_wp2_with fail
   refine (canPut_q X ha hc hA hC y d k wr (HE.out.below hbw) (HP.out.below hbw) h4 hlt HH.out.1 HH.out.2.1 HH.out.2.2).mono ?_
   rintro e w1 ⟨rfl, b1⟩
   have B1 : Hid (Below w.heap.size w w1) := hbw.trans (b1.mono hbw.size)
   clear b1 hbw
   by_cases hc' : y.Can d k
   ·have HF : Hid (NxtL w y d (.returned (.int .i64 k)) w1) := ⟨B1.out, .inl ⟨k, ⟨hlt, hc', HZ.out⟩, rfl⟩⟩
    rw [qB_true hc']
    clear hc' B1
    go_wp2
    go_ret
    exact HF.out
   ·have HZ' : Hid (∀ j, j < k + 1 -> ¬ y.Can d j) := fun j hj => by
     by_cases e : j = k
     ·subst e
      exact hc'
     ·exact HZ.out j (by omega)
    rw [qB_false hc']
    clear hc' HZ
    go_wp2
    go_roundw
    case rel => exact ⟨k + 1, by omega, by go_num, B1.out, HZ'.out⟩
    case measure => simp [intOf]; omega
  ·have HF : Hid (NxtL w y d (.returned (.int .i64 (-1))) wr) := ⟨hbw, .inr ⟨rfl, fun p hp => HZ.out p (by omega)⟩⟩
   clear HZ hbw
   go_wp2
   go_ret
   exact HF.out
def tnL (f : Nat -> Nat) (n : Nat) : List Int := (List.range n).map fun i => ((f i : Nat) : Int)
theorem tnL_len (f : Nat -> Nat) (n : Nat) : (tnL f n).length = n := by simp [tnL]
theorem tnL_at (f : Nat -> Nat) {n i : Nat} (h : i < n) : zi (tnL f n) i = (f i : Nat) := by
 unfold zi tnL
 simp [h]
theorem tnL_succ (f : Nat -> Nat) (n : Nat) : tnL f (n + 1) = tnL f n ++ [((f n : Nat) : Int)] := by simp [tnL, List.range_succ]
theorem tnD_le (f : Nat -> Nat) : ∀ k p, tnD f k p <= k
 | 0, _ => Nat.le_refl _
 | k + 1, p => by
  have := tnD_le f k p
  rw [tnD_succ]
  by_cases e : p = f k
  ·rw [e, up_same, <- e]
   omega
  ·rw [up_other e]
   omega
structure Hd (w : World) (N : Nat) (d : Nat -> Nat) : Prop where
 at4 : ∀ i, i < 4 -> w.cell? ⟨N, i, none⟩ = some (.int .i64 (d i : Nat))
 fr : ∀ j, w.frozen? ⟨N, j, none⟩ = false
theorem Hd.lt {w : World} {N : Nat} {d : Nat -> Nat} (h : Hd w N d) : N < w.heap.size := zJ w _ (h.at4 0 (by omega))
theorem Hd.blk {w w' : World} {N : Nat} {d : Nat -> Nat} (h : Hd w N d) (hb : w'.heap[N]? = w.heap[N]?) : Hd w' N d := ⟨fun i hi => (zH hb).trans (h.at4 i hi), fun j => (zI hb).trans (h.fr j)⟩
theorem Hd.put {w : World} {N : Nat} {d : Nat -> Nat} (h : Hd w N d) {p : Nat} (hp : p < 4) : Hd (w.setCell ⟨N, p, none⟩ (.int .i64 ((d p : Int) + 1))) N (up d p) := by
 refine ⟨fun i hi => ?_, fun j => by rw [World.frozen?_setCell]; exact h.fr j⟩
 by_cases e : i = p
 ·subst e
  rw [World.cell?_setCell_same' _ _ _ (by rw [h.at4 i hi]; rfl), up_same]
  rfl
 ·rw [World.cell?_setCell_other _ _ _ _ (by intro e9; injection e9 with _ e9; exact e e9.symm), up_other e]
  exact h.at4 i hi
theorem Hd.new (w : World) : Hd (w.alloc (.cells #[.int .i64 0, .int .i64 0, .int .i64 0, .int .i64 0] 71)) w.heap.size (fun _ => 0) := by
 refine ⟨fun i hi => ?_, fun j => yA _ _ _ _ rfl⟩
 match i, hi with
 | 0, _ => exact zV _ _ _ 0 rfl
 | 1, _ => exact zV _ _ _ 1 rfl
 | 2, _ => exact zV _ _ _ 2 rfl
 | 3, _ => exact zV _ _ _ 3 rfl
structure Ro (w wr : World) (f : Nat -> Nat) (v : Value) (k : Nat) : Prop where
 be : Below w.heap.size w wr
 hd : Hd wr w.heap.size (tnD f k)
 ow : OwR wr (w.heap.size + 1) v k (tnH f)
theorem Ro.next {w wr w' : World} {f : Nat -> Nat} {v v' : Value} {k : Nat} (h : Ro w wr f v k) (hf : f k < 4) (o : OwR w' (w.heap.size + 1) v' (k + 1) (tnH f)) (g : wr.grownBy w' v.ownBlock) : Ro w (w'.setCell ⟨w.heap.size, f k, none⟩ (.int .i64 ((tnD f k (f k) : Nat) + 1 : Int))) f v' (k + 1) := by
 have hN := h.hd.lt
 have hne : v.ownBlock ≠ some w.heap.size := fun e => by have := (h.ow.lt _ e).1; omega
 have hd' : Hd w' w.heap.size (tnD f k) := h.hd.blk (g.block _ hN fun e => hne e.symm)
 refine ⟨(h.be.trans (Below.grown (Below.refl _ _) g (by omega) fun j hj => by have := (h.ow.lt j hj).1; omega)).setCell (Nat.le_refl _) _, ?_, o.ofBlock fun j hj => ?_⟩
 ·rw [tnD_succ]
  exact hd'.put hf
 ·have h9 := o.lt j hj
  exact (Touch.of_set (P := fun b => b = w.heap.size) w' (a := ⟨w.heap.size, f k, none⟩) rfl _).block j h9.2 (fun e => by have e : j = w.heap.size := e; omega)
theorem rowOf_any (ta : Option Addr) (T tc : Nat) (f : Nat -> Nat) (w : World) (hS : Sl w ta (tnL f T)) (hf : ∀ k, k < T -> f k < 4) (hT : T <= 1000000) :
  Calls Tryz.prog 53 #[.slice ta T tc] w fun e w' => ∃ v, e = .returned v /\ OwR w' w.heap.size v T (tnH f) /\ Below w.heap.size w w' := by
 have HS : Hid (∀ wx, Below w.heap.size w wx -> Sl wx ta (tnL f T)) := fun wx hb => hS.below hb
 have HF : Hid (∀ k, k < T -> f k < 4) := hf
 have hT' : (T : Int) <= 1000000 := by omega
 have hmk := run_make_woc T (by omega)
 have R0 : Hid (Ro w ((w.alloc (.cells #[.int .i64 0, .int .i64 0, .int .i64 0, .int .i64 0] 71)).alloc (.cells (madeCells (woV 0 0).cells (T * 2)) 43)) f (.slice (some ⟨w.heap.size + 1, 0, none⟩) 0 T) 0) := by
  have h9 := OwR.made (w.alloc (.cells #[.int .i64 0, .int .i64 0, .int .i64 0, .int .i64 0] 71)) T (by omega) (tnH f)
  rw [World.size_alloc] at h9
  exact ⟨(zS _ _).trans ((zS _ _).mono (by simp)), (Hd.new w).blk (Below.heap_alloc _ _ _ (by simp)), h9⟩
 clear hS hf
 go_enter Tryz.func53, Tryz.ntmps53
 go_wp2_with fail
 clear hmk
 go_loopw [4, 12] (fun v i wr => ∃ (k : Nat) (g c : Nat), k <= T /\ i = .int .i64 k /\ v = .slice (some ⟨g, 0, none⟩) k c /\ Hid (Ro w wr f v k)) (fun _ i _ => T - (intOf i).toNat)
 case atStart => exact ⟨0, _, _, Nat.zero_le _, rfl, by with_reducible rfl, R0.out⟩
 case round =>
  clear R0
  rename World => wr
  obtain ⟨k, g, c, hk, rfl, rfl, HR⟩ := hrel
  by_cases hlt : k < T
  case neg =>
   have hkT : k = T := by omega
   subst hkT
   have HE : Hid (OwR wr w.heap.size (.slice (some ⟨g, 0, none⟩) k c) k (tnH f) /\ Below w.heap.size w wr) := ⟨HR.out.ow.mono (by omega), HR.out.be⟩
   clear HR
   go_wp2
   go_ret
   exact ⟨_, rfl, HE.out⟩
  have hlt' : (k : Int) < (T : Int) := by omega
  obtain ⟨bt, ot, rfl, -, ct⟩ := (HS.out wr HR.out.be).at (k := k) (by rw [tnL_len]; exact hlt)
  rw [tnL_at f hlt] at ct
  have hf4 : f k < 4 := HF.out k hlt
  have hf4' : (f k : Int) < 4 := by omega
  have cd := HR.out.hd.at4 (f k) hf4
  have fd := HR.out.hd.fr (f k)
  have hdk : ((tnD f k (f k) : Nat) : Int) <= 1000000 := by have := tnD_le f k (f k); omega
  have HB : Hid (w.heap.size + 1 <= wr.heap.size /\ k <= 1000000) := ⟨HR.out.hd.lt, by omega⟩
  go_upto_region 7 with (at_builtin; refine append_who wr rfl _ _ rfl (w.heap.size + 1) (.slice (some ⟨g, 0, none⟩) k c) k (tnH f) rfl HR.out.ow (f k : Nat) (tnD f k (f k) : Nat) rfl rfl HB.out.2 HB.out.1 ?_; intro v' w5 o5 g5 _; obtain ⟨gg, cg, rfl, -, -, -, -⟩ := o5.form; have R5 : Hid (Ro w (w5.setCell ⟨w.heap.size, f k, none⟩ (.int .i64 ((tnD f k (f k) : Nat) + 1 : Int))) f (.slice (some ⟨gg, 0, none⟩) (k + 1) cg) (k + 1) /\ Hd w5 w.heap.size (tnD f k)) := ⟨HR.out.next hf4 o5 g5, HR.out.hd.blk (g5.block _ HR.out.hd.lt (fun e => by have := (HR.out.ow.lt _ e.symm).1; omega))⟩; clear o5 g5)
  clear cd fd HR ct
  have cd := R5.out.2.at4 (f k) hf4
  have fd := R5.out.2.fr (f k)
  have R6 : Hid (Ro w (w5.setCell ⟨w.heap.size, f k, none⟩ (.int .i64 ((tnD f k (f k) : Nat) + 1 : Int))) f (.slice (some ⟨gg, 0, none⟩) (k + 1) cg) (k + 1)) := R5.out.1
  clear R5
  go_wp2
  go_roundw
  case rel => exact ⟨k + 1, gg, cg, by omega, by go_num, by with_reducible rfl, R6.out⟩
  case measure => simp [intOf]; omega
theorem append_oneG {ops : Array Oper} {rest : List Oper} {op : Oper} {act : Act} {Q : Exit -> Act -> World -> Prop} (w : World) (hgd : op.guard = none) (s x : Operand)
  (ho : op.op = .call { callee := .builtin .append, args := #[s, x], argTypes := #[30, 30] })
  (B : Nat) (v : Value) (xs : List Int) (hs : act.eval s = v) (hv : OwnI w B v xs) (y : Int) (hx : act.eval x = .slice (some ⟨w.heap.size, 0, none⟩) 1 1) (hn : xs.length <= 1048576) (hB : B <= w.heap.size)
  (h : ∀ v' w', OwnI w' B v' (xs ++ [y]) -> w.grownBy w' v.ownBlock -> (∀ j, v'.ownBlock = some j -> v.ownBlock = some j \/ w.heap.size <= j) -> wpList Tryz.prog ops Q rest (act.put op.dst v') w') :
  wpList Tryz.prog ops Q (op :: rest) act (w.alloc (.cells #[.int .i64 y] 3)) := by
 have hb : Below w.heap.size w (w.alloc (.cells #[.int .i64 y] 3)) := (Below.refl _ _).alloc (Nat.le_refl _) _
 refine wpList_append_ints _ hgd s x ho B 1 v (some ⟨w.heap.size, 0, none⟩) xs [y] hs hx (hv.below hb) (.inr ⟨w.heap.size, 0, rfl, by simp, fun i hi => ?_⟩) (by simp; omega) (by simp; omega) ?_
 ·have : i = 0 := by simp at hi; omega
  subst this
  exact zV _ _ _ 0 rfl
 ·intro v' w' o g h5
  refine h v' w' o ⟨g.os, g.tape, g.output, zO hb.size g.size, fun j hj hne => (g.block j (zL hj hb.size) hne).trans (hb.block j hj)⟩ fun j hj => ?_
  rcases h5 with a | a
  ·exact .inl (a.symm.trans hj)
  ·rw [hj] at a
   simp only [Option.some.injEq] at a
   right
   rw [a]
   simp
structure Tw (w : World) (x : SysIn) (X : Nat) (v : Value) (k m : Nat) (wr : World) : Prop where
 pw : Pw w X x.ha x.hc x.y.hs (x.y.hs.gr k) wr
 ow : OwnI wr w.heap.size v (tnL x.y.hs.gf m)
 ne : v.ownBlock ≠ some X
 ls : ∀ j, j < k -> ∃ p, x.y.hs.Least (x.y.hs.gr j) p
theorem Tw.below {w : World} {x : SysIn} {X k m : Nat} {v : Value} {wr w' : World} (h : Tw w x X v k m wr) (hb : Below wr.heap.size wr w') : Tw w x X v k m w' := ⟨h.pw.below hb, h.ow.below hb, h.ne, h.ls⟩
theorem Tw.told {w : World} {x : SysIn} {X k p : Nat} {v v' : Value} {wr w' : World} (h : Tw w x X v k k wr) (hp : x.y.hs.Least (x.y.hs.gr k) p) (o : OwnI w' w.heap.size v' (tnL x.y.hs.gf k ++ [((p : Nat) : Int)])) (g : wr.grownBy w' v.ownBlock) (hv : ∀ j, v'.ownBlock = some j -> v.ownBlock = some j \/ wr.heap.size <= j) : Tw w x X v' k (k + 1) w' := by
 have hX := h.pw.hq.lt
 refine ⟨⟨h.pw.be.trans (Below.grown (Below.refl _ _) g h.pw.be.size fun j hj => (h.ow.lt j hj).1), h.pw.hq.blk (g.block _ hX fun e => h.ne e.symm)⟩, ?_, fun e => ?_, h.ls⟩
 ·rw [tnL_succ, (Hs.gr_next hp).2]
  exact o
 ·rcases hv _ e with a | a
  ·exact h.ne a
  ·omega
theorem Tw.put {w : World} {x : SysIn} {X k p : Nat} {v : Value} {wr w' : World} (h : Tw w x X v k (k + 1) wr) (hX : w.heap.size <= X) (hp : x.y.hs.Least (x.y.hs.gr k) p) (hq : HisQ w' X x.ha x.hc x.y.hs (up (x.y.hs.gr k) p)) (t : Touch (fun b => b = X) wr w') : Tw w x X v (k + 1) (k + 1) w' := by
 refine ⟨?_, h.ow.blk fun j hj => t.block j (h.ow.lt j hj).2 fun e => h.ne (by rw [hj, show j = X from e]), h.ne, fun j hj => ?_⟩
 ·rw [(Hs.gr_next hp).1]
  exact h.pw.turn hX t hq
 ·by_cases e : j = k
  ·subst e
   exact ⟨p, hp⟩
  ·exact h.ls j (by omega)
def NxZ (x : SysIn) (k : Nat) (z : Int) : Prop := (∃ p : Nat, x.y.hs.Least (x.y.hs.gr k) p /\ z = (p : Nat)) \/ (z = -1 /\ ∀ p, p < x.y.hs.n -> ¬ x.y.hs.Can (x.y.hs.gr k) p)
theorem implRow_any (x : SysIn) (w : World) (hG : SysG w x) (hL : x.Len) (hV : w.cell? ⟨0, 0, none⟩ = some (.iface 266 (.agg #[.pointer (some ⟨1, 211, none⟩)]))) :
  Calls Tryz.prog 18 #[x.v] w fun e w' => ∃ v, e = .returned v /\ OwR w' w.heap.size v (rwN x.y) (rwH x.y) /\ Below w.heap.size w w' := by
 have HSo : Hid (∀ wx, Below w.heap.size w wx -> Calls Tryz.prog 52 #[x.v] wx fun e w' => e = .returned (.bool x.y.okB) /\ Below wx.heap.size wx w') := fun wx hb => implSysOk_any x wx (hG.below hb) hL ((hb.cell (zJ w _ hV)).trans hV)
 have HE : Hid (x.y.Ok -> ∀ wx, Below w.heap.size w wx -> HisE wx x.ha x.hA x.hC x.y.hs) := fun hO wx hb => (hG.below hb).his hO.cn.2.2.1
 have B0 : Hid (Below w.heap.size w (w.alloc (oQ4 x.pa x.pn x.pc x.sa x.sn x.sc x.wa x.wn x.wc x.ha x.hn x.hc))) := zS _ _
 have X0 : Hid (BoxC (w.alloc (oQ4 x.pa x.pn x.pc x.sa x.sn x.sc x.wa x.wn x.wc x.ha x.hn x.hc)) w.heap.size (.slice x.pa x.pn x.pc) (.slice x.sa x.sn x.sc) (.slice x.wa x.wn x.wc) (.slice x.ha x.hn x.hc)) := BoxC.new w _ _ _ _ _
 clear hG hL hV
 go_enter Tryz.func18, Tryz.ntmps18
 go_wp2_with fail
 generalize w.alloc (oQ4 x.pa x.pn x.pc x.sa x.sn x.sc x.wa x.wn x.wc x.ha x.hn x.hc) = W0 at *
 refine (HSo.out W0 B0.out).mono ?_
 rintro e W1 ⟨rfl, b2⟩
 have B2 : Hid (Below w.heap.size w W1 /\ BoxC W1 w.heap.size (.slice x.pa x.pn x.pc) (.slice x.sa x.sn x.sc) (.slice x.wa x.wn x.wc) (.slice x.ha x.hn x.hc)) := ⟨B0.out.trans (b2.mono B0.out.size), X0.out.below b2⟩
 clear b2 B0 X0 HSo
 by_cases hok : x.y.okB = true
 case neg =>
  have hok' : x.y.okB = false := by simpa using hok
  have HN : Hid (rwN x.y = 0) := if_neg hok
  rw [hok']
  go_wp2_with fail
  refine (rowOf_any none 0 0 x.y.hs.gf W1 (.inl rfl) (fun k hk => absurd hk (Nat.not_lt_zero _)) (by omega)).mono ?_
  rintro e w4 ⟨v, rfl, o4, b4⟩
  obtain ⟨g, c, rfl, -, -, -, -⟩ := o4.form
  have R4 : Hid (OwR w4 w.heap.size (.slice (some ⟨g, 0, none⟩) 0 c) (rwN x.y) (rwH x.y) /\ Below w.heap.size w w4) := ⟨by rw [HN.out]; exact o4.mono B2.out.1.size, B2.out.1.trans (b4.mono B2.out.1.size)⟩
  clear o4 b4 B2 HN
  go_wp2
  go_ret
  exact ⟨_, rfl, R4.out⟩
 rw [hok]
 have HO : Hid (x.y.Ok) := Sy.ok_of hok
 have HRN : Hid (rwN x.y = x.y.hs.tot) := if_pos hok
 have h4 : x.y.hs.n <= 4 := HO.out.cn.1.2
 have HP : Hid (x.y.hs.Peers /\ (∀ i, i < x.y.hs.n -> x.y.hs.l i <= 200)) := ⟨fun p hp i hi => HO.out.evq hp hi, fun i hi => HO.out.hl200 hi⟩
 have hto : x.y.hs.tot <= 800 := Hs.tot_le h4 HP.out.2
 have V2 : Hid (OwnI (W1.alloc (.cells #[] 3)) W1.heap.size (.slice (some ⟨W1.heap.size, 0, none⟩) 0 0) []) := own_empty W1
 have B3 : Hid (Below w.heap.size w (W1.alloc (.cells #[] 3)) /\ BoxC (W1.alloc (.cells #[] 3)) w.heap.size (.slice x.pa x.pn x.pc) (.slice x.sa x.sn x.sc) (.slice x.wa x.wn x.wc) (.slice x.ha x.hn x.hc) /\ w.heap.size <= W1.heap.size /\ W1.heap.size < (W1.alloc (.cells #[] 3)).heap.size) := ⟨B2.out.1.trans ((zS _ _).mono B2.out.1.size), B2.out.2.below (zS _ _), B2.out.1.size, by simp⟩
 go_upto_region 4 with fail
 generalize W1.alloc (.cells #[] 3) = W2 at *
 generalize W1.heap.size = N1 at *
 clear B2
 have hl := hisZ_len x.ha x.hn x.hc
 have ho := hisZ_one x.ha x.hn x.hc
 generalize hcs : hisZ x.ha x.hn x.hc = cs at *
 have HC : Hid (hisZ x.ha x.hn x.hc = cs) := hcs
 have HI : Hid ((Tryz.prog.info? 74).map (·.size) = some cs.length) := by
  show _ = _
  rw [hl]; exact infoHz
 have HOne : Hid (cs.toArray.all (·.oneCell') = true) := all_oneCell_toArray ho
 have HT : Hid ((W2.alloc (zQ2)).there W2.heap.size 0 cs.toArray.size) := there_new _ _ _ _ _ (by have h9 : cs.toArray.size = 21 := hl; rw [h9]; rfl) rfl
 have T0 : Hid (Tw w x W2.heap.size (.slice (some ⟨N1, 0, none⟩) 0 0) 0 0 ((W2.alloc (zQ2)).setCells W2.heap.size 0 cs)) := by
  obtain ⟨n1, n2⟩ := his_new x W2 HO.out.cn.2.2.1 cs hcs
  exact ⟨⟨B3.out.1.trans (n2.mono B3.out.1.size), n1⟩, (V2.out.mono B3.out.2.2.1).below n2, fun e => by have h9 := B3.out.2.2.2; have e9 : N1 = W2.heap.size := (by cases e; rfl); omega, fun j hj => absurd hj (Nat.not_lt_zero _)⟩
 have HX : Hid (w.heap.size <= W2.heap.size) := B3.out.1.size
 obtain ⟨s0, s1, s2, s3⟩ := B3.out.2.1
 clear hok hl ho hcs
 go_upto_region 5 with (refine wpList_store_mid rfl 74 (.tmp 4) (.tmp 13) rfl W2.heap.size 0 cs.toArray rfl (by rw [<- HC.out]; rfl) HT.out (by simpa using HI.out) HOne.out ?_)
 clear s0 s1 s2 s3 HT HC HI HOne V2 B3
 generalize (W2.alloc (zQ2)).setCells W2.heap.size 0 cs = W3 at *
 generalize W2.heap.size = X at *
 clear W2
 have HNx : Hid (∀ v k m wx, Tw w x X v k m wx -> Calls Tryz.prog 54 #[.pointer (some ⟨X, 0, none⟩)] wx fun e w' => ∃ z : Int, e = .returned (.int .i64 z) /\ Tw w x X v k m w' /\ NxZ x k z) := fun v k m wx h => by
  refine (next_l X x.ha x.hc x.hA x.hC x.y.hs (x.y.hs.gr k) wx (HE.out HO.out wx h.pw.be) h.pw.hq h4 HP.out.1 HP.out.2 (Hs.gr_sum h.ls).2.le).mono ?_
  rintro e w1 ⟨q1, hor⟩
  rcases hor with ⟨p, hp, rfl⟩ | ⟨rfl, hn⟩
  ·exact ⟨_, rfl, h.below q1, .inl ⟨p, hp, rfl⟩⟩
  ·exact ⟨_, rfl, h.below q1, .inr ⟨rfl, hn⟩⟩
 go_wp2_with fail
 refine (HNx.out _ 0 0 W3 T0.out).mono ?_
 rintro e w4 ⟨z, rfl, t4, nz⟩
 have T4 : Hid (Tw w x X (.slice (some ⟨N1, 0, none⟩) 0 0) 0 0 w4) := t4
 have NZ : Hid (NxZ x 0 z) := nz
 clear t4 nz T0
 go_wp2_with fail
 go_loopg [3, 5] x.y.hs.tot (fun g v i wr => ∃ (k : Nat) (z : Int) (ga : Option Addr) (gc : Nat), g = x.y.hs.tot - k /\ v = .slice ga k gc /\ i = .int .i64 z /\ Hid (Tw w x X (.slice ga k gc) k k wr) /\ Hid (NxZ x k z))
 case atStart => exact ⟨0, z, _, _, by omega, by with_reducible rfl, rfl, T4.out, NZ.out⟩
 case round =>
  clear T4 NZ
  obtain ⟨k, zz, ga, gc, hgk, rfl, rfl, HT, HZ⟩ := hrel
  have HGk : Hid (gk = x.y.hs.tot - k) := hgk
  clear hgk
  have HKt : Hid (k <= x.y.hs.tot) := Hs.gr_le HT.out.ls
  rcases HZ.out with ⟨p, hp, rfl⟩ | ⟨rfl, hst⟩
  case inr =>
   have HKe : Hid (k = x.y.hs.tot) := Hs.gr_end HT.out.ls HP.out.1 HO.out.ro hst
   have HF4 : Hid (∀ j, j < k -> x.y.hs.gf j < 4) := fun j hj => by
    obtain ⟨p, hp⟩ := HT.out.ls j hj
    rw [(Hs.gr_next hp).2]
    have := hp.1
    omega
   clear hst HZ HGk HNx
   go_wp2_with fail
   refine (rowOf_any ga k gc x.y.hs.gf _ HT.out.ow.slOf HF4.out (by have := HKt.out; omega)).mono ?_
   rintro e w5 ⟨v, rfl, o5, b5⟩
   obtain ⟨g, c, rfl, -, -, -, -⟩ := o5.form
   have R5 : Hid (OwR w5 w.heap.size (.slice (some ⟨g, 0, none⟩) k c) (rwN x.y) (rwH x.y) /\ Below w.heap.size w w5) := ⟨by rw [HRN.out, <- HKe.out]; exact o5.mono HT.out.pw.be.size, HT.out.pw.be.trans (b5.mono HT.out.pw.be.size)⟩
   clear o5 b5 HT HKe HF4 HKt HRN
   go_wp2
   go_ret
   exact ⟨_, rfl, R5.out⟩
  have HLe : Hid (x.y.hs.Least (x.y.hs.gr k) p) := hp
  have hz : ¬ (p : Int) = -1 := by omega
  have hz' : ((p : Int) != -1) = true := by simp
  have HKl : Hid ((tnL x.y.hs.gf k).length <= 1048576 /\ w.heap.size <= wr.heap.size) := ⟨by rw [tnL_len]; have := HKt.out; omega, HT.out.pw.be.size⟩
  clear hp HZ
  go_upto_region 9 with (at_builtin; refine append_oneG wr rfl _ _ rfl w.heap.size (.slice ga k gc) (tnL x.y.hs.gf k) rfl HT.out.ow (p : Nat) rfl HKl.out.1 HKl.out.2 ?_; intro v' w5 o5 g5 h5; have T5 : Hid (Tw w x X v' k (k + 1) w5) := HT.out.told HLe.out o5 g5 h5; obtain ⟨ga5, gc5, e5, -⟩ := T5.out.ow.form; rw [tnL_len] at e5; subst e5; clear o5 g5 h5)
  clear HT HKl
  go_wp2_with fail
  refine (putOne_q X x.ha x.hc x.hA x.hC x.y.hs (x.y.hs.gr k) p w5 (HE.out HO.out w5 T5.out.pw.be) T5.out.pw.hq h4 HLe.out.1 HP.out.1 HP.out.2 (Hs.gr_sum T5.out.ls).2.le HLe.out.2.1.1).mono ?_
  rintro e w6 ⟨rfl, q6, t6⟩
  have T6 : Hid (Tw w x X (.slice ga5 (k + 1) gc5) (k + 1) (k + 1) w6) := T5.out.put HX.out HLe.out q6 t6
  clear q6 t6 T5 HLe
  go_wp2_with fail
  refine (HNx.out _ (k + 1) (k + 1) w6 T6.out).mono ?_
  rintro e w7 ⟨z7, rfl, t7, nz7⟩
  have T7 : Hid (Tw w x X (.slice ga5 (k + 1) gc5) (k + 1) (k + 1) w7) := t7
  have NZ7 : Hid (NxZ x (k + 1) z7) := nz7
  have HK7 : Hid (k + 1 <= x.y.hs.tot) := Hs.gr_le t7.ls
  clear t7 nz7 T6
  go_wp2
  go_roundg (x.y.hs.tot - (k + 1))
  case measure => have := HGk.out; have := HK7.out; omega
  case rel => exact ⟨k + 1, z7, ga5, gc5, rfl, by with_reducible rfl, rfl, T7.out, NZ7.out⟩
end Go.Proofs.YthdaejgmfognbaaGreatDoor
