/- The walks of the program's rows of events: canPut, putOne, putNext, allPut. -/
import Derived.Test.YtdmpcnmbnfdfmaaGreatDoorFc0
import Derived.Test.YtdmpcnmbnfdfmaaGreatDoorFc34
import Derived.Test.YtdmpcnmbnfdfmaaGreatDoorFc11
import Derived.Test.YtdmpcnmbnfdfmaaGreatDoorFc27
import Derived.Lib.QuietBelow
import Derived.BigRegion
import Derived.BigQuiet
namespace Go.Proofs.YtdmpcnmbnfdfmaaGreatDoor
set_option maxRecDepth 100000
set_option maxHeartbeats 1000000
open Go.ChangeShapes Go.WideShapes Go.ChangeAt Go.RowKit Go.Deep
structure OwnS (w : World) (B : Nat) (c : Nat → Nat) (y : Sy) (vp vs vw vh : Value) (up us uw uh : Nat → Value) : Prop where
 p : LI w (Cl B c 1) vp y.pn up y.pL y.pH
 s : LS w (Cl B c 2) vs y.sn us y.sS
 t : LT w (Cl B c 3) vw y.wn uw y.wL y.wH
 h : LE w (Cl B c 4) vh y.hn uh y.hL y.hH
def OwnSys (w : World) (B : Nat) (y : Sy) (v : Value) : Prop := ∃ c vp vs vw vh up us uw uh, v = .agg #[vp, vs, vw, vh] ∧ OwnS w B c y vp vs vw vh up us uw uh
theorem ownsRow_slice {w : World} {B : Nat} {e : TypeId} {sz : Nat} {v : Value} {n : Nat} {xs : List Value} (h : w.ownsRow B e sz v n xs) : ∃ a c, v = .slice a n c := by
 rcases h.2 with ⟨rfl, rfl⟩ | ⟨g, cap, cur, rfl, _⟩
 ·exact ⟨none, 0, rfl⟩
 ·exact ⟨_, _, rfl⟩
theorem l4Ins_any (a0 : Option Addr) (n cap : Nat) (A : Nat → Option Addr) (L C : Nat → Nat) (H : Nat → Nat → I5) (w : World) (hn : n ≤ 1048576) (hL : ∀ i, i < n → L i ≤ 1048576) (hr : RowS w a0 n fun i => .slice (A i) (L i) (C i)) (hI : ∀ i, i < n → Src w (A i) (fI (H i) (L i))) :
  Calls Tryz.prog 21 #[.slice a0 n cap] w fun e w' => ∃ v u, e = .returned v ∧ LI w' (fun k => w.heap.size ≤ k ∧ k < w'.heap.size) v n u L H ∧ Below w.heap.size w w' := by
 have hn' : (n : Int) ≤ 1048576 := by omega
 have HR : Hid (RowS w a0 n fun i => .slice (A i) (L i) (C i)) := hr
 have HI : Hid (∀ i, i < n → Src w (A i) (fI (H i) (L i))) := hI
 have HL : Hid (∀ i, i < n → L i ≤ 1048576) := hL
 clear hr hI hL
 go_enter Tryz.func21, Tryz.ntmps21
 go_wp2_with fail
 go_loopw [3, 4] (fun v i wr => ∃ k : Nat, k ≤ n ∧ i = .int .i64 k ∧ Hid ((∃ u, LI wr (fun b => w.heap.size ≤ b ∧ b < wr.heap.size) v k u L H) ∧ Below w.heap.size w wr)) (fun _ i _ => n - (intOf i).toNat)
 case atStart => exact ⟨0, Nat.zero_le _, rfl, ⟨fun _ => .slice none 0 0, LL.new _ _ _ w _ (by simp) _ _ _⟩, below_allocL _ _⟩
 case round =>
  obtain ⟨k, hk, rfl, HZ⟩ := hrel
  by_cases hlt : k < n
  ·have hlt' : (k : Int) < (n : Int) := by omega
   obtain ⟨b, off, rfl, ck⟩ := (HR.out.below HZ.out.2).at hlt
   have hbl : b < wr.heap.size := World.block_lt_of_cell? wr _ ck
   have HS : Hid (Src wr (A k) (fI (H k) (L k))) := (HI.out k hlt).below HZ.out.2
   have HLk : Hid (L k ≤ 1048576) := HL.out k hlt
   have hk2 : Hid (k ≤ 2000000) := by show k ≤ 2000000; omega
   obtain ⟨⟨u, oz⟩, bz⟩ := HZ.out
   have OZ : Hid (LI wr (fun b => w.heap.size ≤ b ∧ b < wr.heap.size) u3 k u L H) := oz
   have BZ : Hid (Below w.heap.size w wr) := bz
   clear oz bz HZ
   go_wp2_with (first
    | (at_builtin; refine step_append_srcN kndI wr rfl rfl _ _ rfl (A k) (L k) (C k) (fI (H k) (L k)) rfl rfl (fI_len _ _) HS.out (fI_one _ _) (Nat.le_trans HLk.out (by omega)) ?_; intro v4 w4 o4 b4 n4; obtain ⟨a4, c4, rfl⟩ := ownsRow_slice o4; have F4 : Hid (w4.ownsRow wr.heap.size 53 5 (.slice a4 (L k) c4) (L k) (fI (H k) (L k)) ∧ Below wr.heap.size wr w4 ∧ Value.slice a4 (L k) c4 ≠ .slice none 0 0) := ⟨o4, b4, n4⟩; clear o4 b4 n4)
    | (at_builtin; refine step_append_val kndII w4 rfl rfl _ _ rfl 0 u3 k _ rfl (OZ.out.below F4.out.2.1).row #[.slice a4 (L k) c4] rfl rfl (by intro u hu; simp at hu; subst hu; rfl) hk2.out (Nat.zero_le _) ?_; intro v5 w5 o5 g5 q5 n5; have F5 : Hid (LI w5 (fun b => w.heap.size ≤ b ∧ b < w5.heap.size) v5 (k + 1) (fun j => if j = k then .slice a4 (L k) c4 else u j) L H ∧ Below w.heap.size w w5) := ⟨OZ.out.push F4.out.2.1 F4.out.1 F4.out.2.2 o5 g5 q5 (fun j hj _ => ⟨hj.1, Nat.lt_of_lt_of_le hj.2 (Nat.le_trans F4.out.2.1.size g5.size)⟩) (fun j hj hj' => ⟨Nat.le_trans BZ.out.size hj, hj'⟩), Below.grown (BZ.out.trans (F4.out.2.1.mono BZ.out.size)) g5 (Nat.le_trans BZ.out.size F4.out.2.1.size) (fun j hj => (OZ.out.rb j hj).1)⟩; clear o5 g5 q5 n5))
   go_roundw
   case rel => exact ⟨k + 1, by omega, by go_num, ⟨_, F5.out.1⟩, F5.out.2⟩
   case measure => simp [intOf]; omega
  ·have hkn : k = n := by omega
   subst hkn
   go_wp2
   go_ret
   obtain ⟨⟨u, oz⟩, bz⟩ := HZ.out
   exact ⟨_, u, rfl, oz, bz⟩
theorem stepR_append_src {ops : Array Oper} {o : Oper} {a : Act} {K : Act → World → Prop} {Q : Exit → Act → World → Prop} {E : Prop} {t e : TypeId} {size bytes : Nat} (KK : Kind t e size bytes) (w : World) (hg : o.guard = none) (s x : Operand)
  (ho : o.op = .call { callee := .builtin .append, args := #[s, x], argTypes := #[t, t] })
  (B : Nat) (v : Value) (n : Nat) (xs : List Value) (hs : a.eval s = v) (hown : w.ownsRow B e size v n xs) (a0 : Option Addr) (m c : Nat) (news : List Value) (hx : a.eval x = .slice a0 m c) (hl : news.length = m * size) (hsrc : Src w a0 news) (h1 : ∀ u ∈ news, u.oneCell' = true) (hnm : n + m ≤ 4000000) (hB : B ≤ w.heap.size)
  (h : ∀ v' w', w'.ownsRow B e size v' (n + m) (xs ++ news) → w.grownBy w' v.ownBlock → (v'.ownBlock = v.ownBlock ∨ v'.ownBlock = some w.heap.size) → (v ≠ .slice none 0 0 ∨ 0 < m → v' ≠ .slice none 0 0) → K (a.put o.dst v') w') :
  if Region.wanted o (yielded ops a.tmps) = true then Oper.wp Tryz.prog o a w K Q else E := by
 obtain ⟨v', w', r1, r2, r3, r4, r5⟩ := run_append_src KK w o.type B v n xs hown a0 m c news hl hsrc h1 hnm hB
 have hw : Region.wanted o (yielded ops a.tmps) = true := by simp [Region.wanted, hg]
 rw [if_pos hw]
 unfold Oper.wp execOp
 simp only [ho, resolve, invoke, builtin, Sem.run_bind, Sem.run_pure, Result.andThen_ok, List.map_toArray, List.map_cons, List.map_nil, hs, hx, r1]
 exact h v' w' r2 r3 r4 r5
theorem stepR_append_val {ops : Array Oper} {o : Oper} {a : Act} {K : Act → World → Prop} {Q : Exit → Act → World → Prop} {E : Prop} {t e : TypeId} {size bytes : Nat} (KK : Kind t e size bytes) (w : World) {N : Nat} (hN : N = w.heap.size) (hg : o.guard = none) (s x : Operand)
  (ho : o.op = .call { callee := .builtin .append, args := #[s, x], argTypes := #[t, t] })
  (B : Nat) (v : Value) (n : Nat) (xs : List Value) (hs : a.eval s = v) (hown : w.ownsRow B e size v n xs) (cs : Array Value) (hx : a.eval x = .slice (some ⟨N, 0, none⟩) 1 1) (hl : cs.size = size) (h1 : ∀ u ∈ cs.toList, u.oneCell' = true) (hn : n ≤ 2000000) (hB : B ≤ w.heap.size)
  (h : ∀ v' w', w'.ownsRow B e size v' (n + 1) (xs ++ cs.toList) → w.grownBy w' v.ownBlock → (∀ j, v'.ownBlock = some j → v.ownBlock = some j ∨ w.heap.size ≤ j) → v' ≠ .slice none 0 0 → K (a.put o.dst v') w') :
  if Region.wanted o (yielded ops a.tmps) = true then Oper.wp Tryz.prog o a (w.alloc (.cells cs e)) K Q else E := by
 subst hN
 have hb : Below w.heap.size w (w.alloc (.cells cs e)) := below_allocL _ _
 refine stepR_append_src KK _ hg s x ho B v n xs hs (hown.alloc _) (some ⟨w.heap.size, 0, none⟩) 1 1 cs.toList hx (by simp [hl]) (.inr ⟨w.heap.size, 0, rfl, by simp, fun j u hj => ?_⟩) h1 (by omega) (by simp; omega) ?_
 ·rw [Nat.zero_add, new_cell _ _ _ j rfl]
  simpa using hj
 ·intro v' w' o g hbk hne
  refine h v' w' o ⟨g.os, g.tape, g.output, Nat.le_trans hb.size g.size, fun j hj hne => (g.block j (Nat.lt_of_lt_of_le hj hb.size) hne).trans (hb.block j hj)⟩ (fun j hj => ?_) (hne (.inr (by omega)))
  rcases hbk with a | a
  ·exact .inl (a.symm.trans hj)
  ·rw [hj] at a
   simp only [Option.some.injEq] at a
   right
   rw [a]
   simp
theorem stepR_call {ops : Array Oper} {o : Oper} {a : Act} {w : World} {K : Act → World → Prop} {Q : Exit → Act → World → Prop} {E : Prop} (hg : o.guard = none) (f : FuncId) (args : Array Operand) (ts : Array TypeId)
  (ho : o.op = .call { callee := .value (.func f), args := args, argTypes := ts }) (vals : Array Value) (hv : args.map a.eval = vals) (hen : ∀ vs wx, (callFunc f vs).run Tryz.prog wx = .ok (.enter f vs) wx) {post : Ending → World → Prop} (hc : Calls Tryz.prog f vals w post)
  (h : ∀ e w', post e w' → ∃ v, e = .returned v ∧ K (a.put o.dst v) w') :
  if Region.wanted o (yielded ops a.tmps) = true then Oper.wp Tryz.prog o a w K Q else E := by
 have hw : Region.wanted o (yielded ops a.tmps) = true := by simp [Region.wanted, hg]
 rw [if_pos hw]
 have hr : (execOp a.eval o).run Tryz.prog w = .ok (.enter f vals) w := by
  unfold execOp
  simp [ho, resolve, invoke, hv, hen, Act.eval, Deferred.ofValue]
 unfold Oper.wp
 rw [hr, Oper.upon_enter]
 refine hc.mono fun e w' hp => ?_
 obtain ⟨v, rfl, hk⟩ := h e w' hp
 exact hk
def rcol (c : Nat → Nat) (n q : Nat) : Nat → Nat := fun k => if k < n then c k else q
theorem rcol_old {c : Nat → Nat} {n q k : Nat} (h : k < n) : rcol c n q k = c k := if_pos h
theorem rcol_new {c : Nat → Nat} {n q k : Nat} (h : n ≤ k) : rcol c n q k = q := if_neg (by omega)
theorem Cl.old {B : Nat} {c : Nat → Nat} {n q i k : Nat} (h : Cl B c i k) (hk : k < n) : Cl B (rcol c n q) i k := ⟨h.1, (rcol_old hk).trans h.2⟩
structure CpB (B N : Nat) (c : Nat → Nat) (y : Sy) (ks kw : Nat) (wx : World) (vp vs vw vh : Value) (up us uw uh : Nat → Value) : Prop where
 bx : BoxC wx N vp vs vw vh
 fr : ∀ j, wx.frozen? ⟨N, j, none⟩ = false
 cN : c N = 0
 bN : B ≤ N
 o : OwnS wx B c { y with sn := ks, wn := kw } vp vs vw vh up us uw uh
section
variable {B N : Nat} {c : Nat → Nat} {y : Sy} {ks kw : Nat} {wr : World} {vp vs vw vh : Value} {up us uw uh : Nat → Value}
end
theorem run_make_kind {t e : TypeId} {bytes : Nat} (K : Kind t e 1 bytes) (n : Nat) (hn : n ≤ 1048576) : ∃ cs : Array Value, cs.size = n ∧ ∀ w : World, (Instr.makeSlice t (.int .i64 0) (.int .i64 (n : Int))).run Tryz.prog w = .ok (.slice (some ⟨w.heap.size, 0, none⟩) 0 n) (w.alloc (.cells cs e)) := by
 obtain ⟨i, z, hi, hz, hs, hb, hzs⟩ := K.inf
 refine ⟨madeCells z.cells n, size_madeCells _ _, fun w => ?_⟩
 have hby : i.bytes * n ≤ 281474976710656 := by
  rw [hb]
  exact Nat.le_trans (Nat.mul_le_mul K.sml hn) (by omega)
 have hby' : (i.bytes : Int) * (n : Int) ≤ 281474976710656 := by rw [← Int.natCast_mul]; exact Int.ofNat_le.2 hby
 have h := run_make (P := Tryz.prog) w t e i z K.und hi hz .i64 .i64 0 (n : Int) (by omega) (by omega) hby' (by omega)
 rw [hs, Nat.mul_one, Int.toNat_natCast] at h
 exact h
theorem LL.made (e : TypeId) (sz : Nat) (E : TypeId) (w : World) (cs : Array Value) (n : Nat) (hn : n ≤ 1048576) (hc : cs.size = n) (P : Nat → Prop) (hP : P w.heap.size) (u : Nat → Value) (L : Nat → Nat) (c : Nat → List Value) : LL e sz E (w.alloc (.cells cs E)) P (.slice (some ⟨w.heap.size, 0, none⟩) 0 n) 0 u L c :=
 ⟨World.ownsRow_made (base := 0) (e := E) (size := 1) w cs n (Nat.zero_le _) (by unfold maxLen; omega) (by rw [hc, Nat.mul_one]), fun i hi => (by omega), fun k hk => (by cases hk; exact hP), fun i hi => (by omega), fun i hi => (by omega), fun i j hi => (by omega), fun i hi => (by omega)⟩
theorem cloneIns_own (b off n cap : Nat) (H : Nat → I5) (w : World) (hn : n ≤ 1048576) (hI : Src w (some ⟨b, off, none⟩) (fI H n)) :
  Calls Tryz.prog 36 #[.slice (some ⟨b, off, none⟩) n cap] w fun e w' => ∃ a c, e = .returned (.slice a n c) ∧ w'.ownsRow w.heap.size 53 5 (.slice a n c) n (fI H n) ∧ Value.slice a n c ≠ .slice none 0 0 ∧ Below w.heap.size w w' := by
 have HI : Hid (Src w (some ⟨b, off, none⟩) (fI H n)) := hI
 have he : ∀ wx : World, (binOp .eql 47 (.slice (some ⟨b, off, none⟩) n cap) (.slice none 0 0)).run Tryz.prog wx = .ok (.bool false) wx := fun wx => by kernel_rfl
 clear hI
 go_enter Tryz.func36, Tryz.ntmps36
 go_wp2_with (at_builtin; refine step_append_srcN kndI w rfl rfl _ _ rfl (some ⟨b, off, none⟩) n cap (fI H n) rfl rfl (fI_len _ _) HI.out (fI_one _ _) (by omega) ?_; intro v4 w4 o4 b4 n4; obtain ⟨a4, c4, rfl⟩ := ownsRow_slice o4; have F4 : Hid (w4.ownsRow w.heap.size 53 5 (.slice a4 n c4) n (fI H n) ∧ Value.slice a4 n c4 ≠ .slice none 0 0 ∧ Below w.heap.size w w4) := ⟨o4, n4, b4⟩; clear o4 b4 n4)
 go_ret
 exact ⟨_, _, rfl, F4.out⟩
theorem copyListsIns_own (a0 : Option Addr) (n cap : Nat) (A : Nat → Option Addr) (L C : Nat → Nat) (H : Nat → Nat → I5) (w : World) (hn : n ≤ 1048576) (hL : ∀ i, i < n → L i ≤ 1048576) (hr : RowS w a0 n fun i => .slice (A i) (L i) (C i)) (hI : ∀ i, i < n → ∃ b off, A i = some ⟨b, off, none⟩ ∧ Src w (A i) (fI (H i) (L i))) :
  Calls Tryz.prog 20 #[.slice a0 n cap] w fun e w' => ∃ v u, e = .returned v ∧ LI w' (fun k => w.heap.size ≤ k ∧ k < w'.heap.size) v n u L H ∧ Below w.heap.size w w' := by
 have hn' : (n : Int) ≤ 1048576 := by omega
 obtain ⟨cs, hcs, hmk⟩ := run_make_kind kndII n hn
 have HCS : Hid (cs.size = n) := hcs
 have HR : Hid (RowS w a0 n fun i => .slice (A i) (L i) (C i)) := hr
 have HI : Hid (∀ i, i < n → ∃ b off, A i = some ⟨b, off, none⟩ ∧ Src w (A i) (fI (H i) (L i))) := hI
 have HL : Hid (∀ i, i < n → L i ≤ 1048576) := hL
 clear hr hI hL hcs
 go_enter Tryz.func20, Tryz.ntmps20
 go_wp2_with fail
 clear hmk
 go_loopw [3, 11] (fun v i wr => ∃ k : Nat, k ≤ n ∧ i = .int .i64 k ∧ Hid ((∃ u, LI wr (fun b => w.heap.size ≤ b ∧ b < wr.heap.size) v k u L H) ∧ Below w.heap.size w wr)) (fun _ i _ => n - (intOf i).toNat)
 case atStart => exact ⟨0, Nat.zero_le _, rfl, ⟨fun _ => .slice none 0 0, LL.made _ _ _ w _ n hn HCS.out _ (by simp) _ _ _⟩, below_allocL _ _⟩
 case round =>
  obtain ⟨k, hk, rfl, HZ⟩ := hrel
  by_cases hlt : k < n
  ·have hlt' : (k : Int) < (n : Int) := by omega
   obtain ⟨b, off, rfl, ck⟩ := (HR.out.below HZ.out.2).at hlt
   have hbl : b < wr.heap.size := World.block_lt_of_cell? wr _ ck
   obtain ⟨b2, o2, ea, hsr⟩ := HI.out k hlt
   rw [ea] at hsr ck
   have HS : Hid (Src wr (some ⟨b2, o2, none⟩) (fI (H k) (L k))) := hsr.below HZ.out.2
   have HLk : Hid (L k ≤ 1048576) := HL.out k hlt
   have hk2 : Hid (k ≤ 2000000) := by show k ≤ 2000000; omega
   obtain ⟨⟨u, oz⟩, bz⟩ := HZ.out
   have OZ : Hid (LI wr (fun b => w.heap.size ≤ b ∧ b < wr.heap.size) u3 k u L H) := oz
   have BZ : Hid (Below w.heap.size w wr) := bz
   clear oz bz HZ hsr ea
   go_wp2_with fail
   refine (cloneIns_own b2 o2 (L k) (C k) (H k) wr HLk.out HS.out).mono ?_
   rintro e w4 ⟨a4, c4, rfl, o4, n4, b4⟩
   have F4 : Hid (w4.ownsRow wr.heap.size 53 5 (.slice a4 (L k) c4) (L k) (fI (H k) (L k)) ∧ Below wr.heap.size wr w4 ∧ Value.slice a4 (L k) c4 ≠ .slice none 0 0) := ⟨o4, b4, n4⟩
   clear o4 b4 n4 ck hbl
   go_wp2_with (at_builtin; refine step_append_val kndII w4 rfl rfl _ _ rfl 0 u3 k _ rfl (OZ.out.below F4.out.2.1).row #[.slice a4 (L k) c4] rfl rfl (by intro u hu; simp at hu; subst hu; rfl) hk2.out (Nat.zero_le _) ?_; intro v5 w5 o5 g5 q5 n5; have F5 : Hid (LI w5 (fun b => w.heap.size ≤ b ∧ b < w5.heap.size) v5 (k + 1) (fun j => if j = k then .slice a4 (L k) c4 else u j) L H ∧ Below w.heap.size w w5) := ⟨OZ.out.push F4.out.2.1 F4.out.1 F4.out.2.2 o5 g5 q5 (fun j hj _ => ⟨hj.1, Nat.lt_of_lt_of_le hj.2 (Nat.le_trans F4.out.2.1.size g5.size)⟩) (fun j hj hj' => ⟨Nat.le_trans BZ.out.size hj, hj'⟩), Below.grown (BZ.out.trans (F4.out.2.1.mono BZ.out.size)) g5 (Nat.le_trans BZ.out.size F4.out.2.1.size) (fun j hj => (OZ.out.rb j hj).1)⟩; clear o5 g5 q5 n5)
   go_roundw
   case rel => exact ⟨k + 1, by omega, by go_num, ⟨_, F5.out.1⟩, F5.out.2⟩
   case measure => simp [intOf]; omega
  ·have hkn : k = n := by omega
   subst hkn
   go_wp2
   go_ret
   obtain ⟨⟨u, oz⟩, bz⟩ := HZ.out
   exact ⟨_, u, rfl, oz, bz⟩
open Go.Sort
noncomputable def qB (p : Prop) : Bool := @decide p (Classical.propDecidable _)
theorem qB_true {p : Prop} (h : p) : qB p = true := by simp [qB, h]
theorem qB_false {p : Prop} (h : ¬ p) : qB p = false := by simp [qB, h]
structure HisE (w : World) (ha : Option Addr) (hA : Nat → Option Addr) (hC : Nat → Nat) (y : Hs) : Prop where
 row : RowS w ha y.n fun i => .slice (hA i) (y.l i) (hC i)
 ev : ∀ i, i < y.n → EvL w (hA i) (y.l i) (y.e i)
theorem HisE.below {w w' : World} {ha : Option Addr} {hA : Nat → Option Addr} {hC : Nat → Nat} {y : Hs} (h : HisE w ha hA hC y) (hb : Below w.heap.size w w') : HisE w' ha hA hC y := ⟨h.row.below hb, fun i hi => (h.ev i hi).below hb⟩
structure HisP (w : World) (X : Nat) (ha : Option Addr) (hc : Nat) (y : Hs) (d : Nat → Nat) : Prop where
 c4 : w.cell? ⟨X, 4, none⟩ = some (.slice ha y.n hc)
 pt : ∀ i, i < 4 → w.cell? ⟨X, 5 + i, none⟩ = some (.int .i64 (d i))
 op : ∀ a b, a < 4 → b < 4 → w.cell? ⟨X, 9 + a * 4 + b, none⟩ = some (.int .i64 (y.opn d a b))
 fr : ∀ j, w.frozen? ⟨X, j, none⟩ = false
theorem HisP.lt {w : World} {X : Nat} {ha : Option Addr} {hc : Nat} {y : Hs} {d : Nat → Nat} (h : HisP w X ha hc y d) : X < w.heap.size := World.block_lt_of_cell? w _ h.c4
theorem HisP.blk {w w' : World} {X : Nat} {ha : Option Addr} {hc : Nat} {y : Hs} {d : Nat → Nat} (h : HisP w X ha hc y d) (hb : w'.heap[X]? = w.heap[X]?) : HisP w' X ha hc y d :=
 ⟨(World.cell?_of_block hb).trans h.c4, fun i hi => (World.cell?_of_block hb).trans (h.pt i hi), fun a b h1 h2 => (World.cell?_of_block hb).trans (h.op a b h1 h2), fun j => (World.frozen?_of_block hb).trans (h.fr j)⟩
theorem HisP.below {w w' : World} {X : Nat} {ha : Option Addr} {hc : Nat} {y : Hs} {d : Nat → Nat} (h : HisP w X ha hc y d) (hb : Below w.heap.size w w') : HisP w' X ha hc y d := h.blk (hb.block X h.lt)
theorem cell_allocs {w : World} {a : Addr} {v : Value} (h : w.cell? a = some v) (o : Obj) : (w.alloc o).cell? a = some v := (World.cell?_alloc_lt w o a (World.block_lt_of_cell? w _ h)).trans h
theorem canPut_any (X : Nat) (ha : Option Addr) (hc : Nat) (hA : Nat → Option Addr) (hC : Nat → Nat) (y : Hs) (d : Nat → Nat) (k : Nat) (w : World) (hE : HisE w ha hA hC y) (hP : HisP w X ha hc y d) (h4 : y.n ≤ 4) (hk : k < y.n) (hp : y.Peers) (hl : ∀ i, i < y.n → y.l i ≤ 200) (hd : ∀ i, d i ≤ y.l i) :
  Calls Tryz.prog 66 #[.pointer (some ⟨X, 4, none⟩), .int .i64 k] w fun e w' => e = .returned (.bool (qB (y.Can d k))) ∧ Below w.heap.size w w' := by
 have HE : Hid (HisE w ha hA hC y) := hE
 have HP : Hid (HisP w X ha hc y d) := hP
 have HCan : Hid (y.Can d k ↔ d k < y.l k ∧ ((y.e k (d k)).k = 3 → 0 < y.opn d (y.e k (d k)).q.toNat k)) := Hs.can_iff hp hk
 have hk4 : (k : Int) < 4 := by omega
 have hk' : (k : Int) < (y.n : Int) := by omega
 have hl200 : (y.l k : Int) ≤ 200 := by have := hl k hk; omega
 have hdk : (d k : Int) ≤ (y.l k : Int) := by have := hd k; omega
 obtain ⟨bh, oh, eh, ch⟩ := hE.row.at hk
 obtain ⟨c4, pt, op, -⟩ := hP
 have pk := pt k (by omega)
 rw [eh] at c4
 clear hE
 by_cases he : d k = y.l k
 ·have HN : Hid (qB (y.Can d k) = false) := qB_false fun h => by have := h.1; omega
  rw [he] at pk
  clear op pt
  go_enter Tryz.func66, Tryz.ntmps66
  go_wp2_with fail
  go_quiet (fail)
  go_wp2
  go_ret
  rw [HN.out]
  exact ⟨rfl, below_drewN (Below.refl _ _) _⟩
 ·have hlt : d k < y.l k := by have := hd k; omega
  have hlt' : (d k : Int) < (y.l k : Int) := by omega
  have hne : ((d k : Int) == (y.l k : Int)) = false := by
   have : ¬ (d k : Int) = (y.l k : Int) := by omega
   simpa using this
  obtain ⟨b, off, ea, zb, e0, e1, e2⟩ := (HE.out.ev k hk).at hlt
  rw [ea] at ch
  have n1 : w.heap.size ≠ X := by have := HP.out.lt; omega
  have n2 : w.heap.size ≠ b := by omega
  have n3 : w.heap.size ≠ bh := by have := World.block_lt_of_cell? w _ ch; simp at this; omega
  clear zb
  have hq := hp k hk (d k) hlt
  obtain ⟨q, hqe⟩ : ∃ q : Nat, (y.e k (d k)).q = (q : Int) := ⟨(y.e k (d k)).q.toNat, by omega⟩
  have hq4 : (q : Int) < 4 := by omega
  have oq := op q k (by omega) (by omega)
  rw [hqe] at e1
  rcases Bool.eq_false_or_eq_true ((y.e k (d k)).k != 3) with t | t
  ·have HN : Hid (qB (y.Can d k) = true) := qB_true (HCan.out.2 ⟨hlt, fun h => by rw [h] at t; cases t⟩)
   clear op pt hq hqe oq HCan
   generalize (y.e k (d k)).k = kd at *
   generalize (y.e k (d k)).v = vd at *
   go_enter Tryz.func66, Tryz.ntmps66
   go_wp2_with fail
   go_quiet (fail)
   go_wp2_with fail
   have BD : Hid (Below w.heap.size w (w.drewN nq)) := below_drewN (Below.refl _ _) _
   replace n1 : (w.drewN nq).heap.size ≠ X := n1
   replace n2 : (w.drewN nq).heap.size ≠ b := n2
   replace n3 : (w.drewN nq).heap.size ≠ bh := n3
   replace c4 : (w.drewN nq).cell? ⟨X, 4, none⟩ = _ := c4
   replace pk : (w.drewN nq).cell? ⟨X, 5 + k, none⟩ = _ := pk
   replace ch : (w.drewN nq).cell? ⟨bh, oh + k, none⟩ = _ := ch
   replace e0 : (w.drewN nq).cell? ⟨b, off + d k * 3, none⟩ = _ := e0
   replace e1 : (w.drewN nq).cell? ⟨b, off + d k * 3 + 1, none⟩ = _ := e1
   replace e2 : (w.drewN nq).cell? ⟨b, off + d k * 3 + 2, none⟩ = _ := e2
   generalize w.drewN nq = wd at *
   have c4' := cell_allocs c4
   have pk' := cell_allocs pk
   have ch' := cell_allocs ch
   have e0' := cell_allocs e0
   have e1' := cell_allocs e1
   have e2' := cell_allocs e2
   go_region
   all_goals
    go_wp2_with fail
    go_quiet (fail)
    go_wp2
    go_ret
    rw [HN.out]
    exact ⟨rfl, below_drewN (BD.out.trans ((below_alloc _ _).mono BD.out.size)).drew _⟩
  ·have hk3 : (y.e k (d k)).k = 3 := by simpa using t
   have HN : Hid (qB (y.Can d k) = decide (0 < y.opn d q k)) := by
    show qB (y.Can d k) = decide (0 < y.opn d q k)
    have e : (y.e k (d k)).q.toNat = q := by omega
    by_cases h0 : 0 < y.opn d q k
    ·rw [decide_eq_true h0]
     exact qB_true (HCan.out.2 ⟨hlt, fun _ => by rw [e]; exact h0⟩)
    ·rw [decide_eq_false h0]
     refine qB_false fun h => h0 ?_
     have := (HCan.out.1 h).2 hk3
     rwa [e] at this
   rw [hk3] at e0
   clear op pt hq hqe HCan t hk3
   generalize (y.e k (d k)).v = vd at *
   generalize y.opn d q k = on at *
   go_enter Tryz.func66, Tryz.ntmps66
   go_wp2_with fail
   go_quiet (fail)
   go_wp2_with fail
   have BD : Hid (Below w.heap.size w (w.drewN nq)) := below_drewN (Below.refl _ _) _
   replace n1 : (w.drewN nq).heap.size ≠ X := n1
   replace n2 : (w.drewN nq).heap.size ≠ b := n2
   replace n3 : (w.drewN nq).heap.size ≠ bh := n3
   replace c4 : (w.drewN nq).cell? ⟨X, 4, none⟩ = _ := c4
   replace pk : (w.drewN nq).cell? ⟨X, 5 + k, none⟩ = _ := pk
   replace ch : (w.drewN nq).cell? ⟨bh, oh + k, none⟩ = _ := ch
   replace e0 : (w.drewN nq).cell? ⟨b, off + d k * 3, none⟩ = _ := e0
   replace e1 : (w.drewN nq).cell? ⟨b, off + d k * 3 + 1, none⟩ = _ := e1
   replace e2 : (w.drewN nq).cell? ⟨b, off + d k * 3 + 2, none⟩ = _ := e2
   replace oq : (w.drewN nq).cell? ⟨X, 9 + q * 4 + k, none⟩ = _ := oq
   generalize w.drewN nq = wd at *
   have c4' := cell_allocs c4
   have pk' := cell_allocs pk
   have ch' := cell_allocs ch
   have e0' := cell_allocs e0
   have e1' := cell_allocs e1
   have e2' := cell_allocs e2
   have oq' := cell_allocs oq
   go_region
   all_goals
    go_wp2_with fail
    go_quiet (fail)
    go_wp2
    go_ret
    rw [HN.out]
    exact ⟨rfl, below_drewN (BD.out.trans ((below_alloc _ _).mono BD.out.size)).drew _⟩
theorem HisP.put {w w' : World} {X : Nat} {ha : Option Addr} {hc : Nat} {y : Hs} {d : Nat → Nat} {k : Nat} (h : HisP w X ha hc y d) (c4 : w'.cell? ⟨X, 4, none⟩ = w.cell? ⟨X, 4, none⟩) (pt : ∀ i, i < 4 → w'.cell? ⟨X, 5 + i, none⟩ = if i = k then some (.int .i64 (d k + 1 : Nat)) else w.cell? ⟨X, 5 + i, none⟩)
  (op : ∀ a b, a < 4 → b < 4 → w'.cell? ⟨X, 9 + a * 4 + b, none⟩ = some (.int .i64 (y.opn (up d k) a b))) (fr : ∀ j, w'.frozen? ⟨X, j, none⟩ = false) : HisP w' X ha hc y (up d k) := by
 refine ⟨c4.trans h.c4, fun i hi => ?_, op, fr⟩
 rw [pt i hi]
 by_cases e : i = k
 ·subst e
  rw [if_pos rfl, up_same]
 ·rw [if_neg e, up_other e]
  exact h.pt i hi
end Go.Proofs.YtdmpcnmbnfdfmaaGreatDoor
