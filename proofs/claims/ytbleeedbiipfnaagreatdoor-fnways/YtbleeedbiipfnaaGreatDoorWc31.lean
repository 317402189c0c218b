/- Lists of places that a draw made, as lists whose places are known. -/
import Derived.Test.YtbleeedbiipfnaaGreatDoorWc0
import Derived.Test.YtbleeedbiipfnaaGreatDoorWc25
import Derived.Test.YtbleeedbiipfnaaGreatDoorWc27
import Derived.Test.YtbleeedbiipfnaaGreatDoorWc24
import Derived.Test.YtbleeedbiipfnaaGreatDoorWc29
import Derived.Test.YtbleeedbiipfnaaGreatDoorWc9
import Derived.Deep.RegionHeld3
import Derived.Deep.RegionWith
import Derived.Deep.RegionLaw
import Derived.Test.YtbleeedbiipfnaaGreatDoorWc30
import Derived.Test.YtbleeedbiipfnaaGreatDoorWc11
import Derived.Defers
import Derived.Deep.LoopGhost
import Derived.Deep.Cut
import Derived.Deep.MidRow
import Derived.Laws.EntriesVeiled
namespace Go.Proofs.YtbleeedbiipfnaaGreatDoor
set_option maxRecDepth 100000
set_option maxHeartbeats 4000000
open Go.ChangeShapes Go.WideShapes Go.ChangeAt Go.RowKit Go.Deep
structure Sy where
 pn : Nat
 pL : Nat → Nat
 pH : Nat → Nat → I5
 sn : Nat
 sS : Nat → S4
 wn : Nat
 wL : Nat → Nat
 wH : Nat → Nat → I2
 hn : Nat
 hL : Nat → Nat
 hH : Nat → Nat → E3
def SysIn.y (x : SysIn) : Sy := ⟨x.pn, x.pL, x.pH, x.sn, x.sS, x.wn, x.wL, x.wH, x.hn, x.hL, x.hH⟩
def Sy.hs (y : Sy) : Hs := ⟨y.pn, y.hL, y.hH⟩
def itemB (x : I2) : Bool := numB x.v && (!x.m || x.v == 0)
structure WayP (h : Nat → I2) (len : Nat) (took sent : List Int) : Prop where
 it : ∀ i, i < len → itemB (h i) = true
 le : len ≤ 12
 eq : took ++ numL h len = sent
structure Sy.Ok (y : Sy) : Prop where
 cn : (1 ≤ y.pn ∧ y.pn ≤ 4) ∧ y.sn = y.pn ∧ y.hn = y.pn ∧ y.wn = y.pn * y.pn
 pr : ∀ p, p < y.pn → progOkB (y.pH p) (y.pL p) y.pn = true
 rp : ∀ p, p < y.pn → repO (y.pH p) (y.pL p) (y.hH p) (y.hL p) = some (y.sS p)
 pe : ∀ p, p < y.pn → ∀ i, i < y.hL p → (y.hH p i).q < (y.pn : Int)
 wa : ∀ a, a < y.pn → ∀ b, b < y.pn → WayP (y.wH (a * y.pn + b)) (y.wL (a * y.pn + b)) (valL (y.hH b) 3 a (y.hL b)) (valL (y.hH a) 2 b (y.hL a))
 ro : y.hs.Row
noncomputable def Sy.okB (y : Sy) : Bool := @decide y.Ok (Classical.propDecidable _)
theorem Sy.okB_true {y : Sy} (h : y.Ok) : y.okB = true := by simp [Sy.okB, h]
theorem Sy.okB_false {y : Sy} (h : ¬ y.Ok) : y.okB = false := by simp [Sy.okB, h]
theorem Sy.ok_of {y : Sy} (h : y.okB = true) : y.Ok := by simpa [Sy.okB] using h
theorem evP_pos {g : Nat → I5} {len : Nat} {k : Nat} (h : progOkB g len 4 = true) (hk : k < len) : 0 ≤ evP (g k).o (g k).n := by
 have h5 := right_ins h hk
 simp only [insOkB, Bool.and_eq_true] at h5
 have h6 := h5.2
 unfold evP
 by_cases e6 : (g k).o = 6
 ·rw [if_pos e6]
  simp [opOkB, e6, inB] at h6
  omega
 ·rw [if_neg e6]
  by_cases e7 : (g k).o = 7
  ·rw [if_pos e7]
   simp [opOkB, e7, inB] at h6
   omega
  ·rw [if_neg e7]
   exact Int.le_refl _
theorem doB_peer {g : Nat → I5} {len : Nat} {p : Int} {rs os : List Int} {code k q v : Int} (h : doB g len p rs os code k q v = true) : 0 ≤ q := by
 have hr := doB_right h
 obtain ⟨h1, h2, -⟩ := right_parts hr
 obtain ⟨-, ⟨j, rfl, hj⟩, -⟩ := st_parts h2
 have hp := evP_pos h1 hj
 simp only [doB, canB, nxP, if_pos hr, Int.toNat_natCast] at h
 split at h
 ·simp only [Bool.and_eq_true] at h
  have h3 := h.2
  split at h3
  ·simp only [belB, decide_eq_true_eq] at h3
   omega
  ·simp only [beq_iff_eq] at h3
   omega
 ·simp only [Bool.and_eq_true, beq_iff_eq] at h
  have := h.2.2.1
  omega
theorem rp_peer {g : Nat → I5} {len : Nat} {eh : Nat → E3} : ∀ {k : Nat} {S : S4}, rp g len eh k = some S → ∀ i, i < k → 0 ≤ (eh i).q
 | 0, _, _, i, hi => by omega
 | k + 1, S, h, i, hi => by
  simp only [rp] at h
  cases hr : rp g len eh k with
  | none => rw [hr] at h; cases h
  | some S0 =>
   rw [hr] at h
   simp only [Option.bind_some, rpStep] at h
   split at h
   ·rename_i hd
    by_cases e : i = k
    ·subst e
     exact doB_peer hd
    ·exact rp_peer hr i (by omega)
   ·cases h
theorem repO_some {g : Nat → I5} {n : Nat} {eh : Nat → E3} {m : Nat} {S : S4} (h : repO g n eh m = some S) : progOkB g n 4 = true ∧ m ≤ 200 ∧ rp g n eh m = some S := by
 unfold repO at h
 split at h
 ·rename_i hc
  exact ⟨hc.1, hc.2, h⟩
 ·cases h
structure SysG (W : World) (x : SysIn) : Prop where
 p : RowS W x.pa x.pn fun i => .slice (x.pA i) (x.pL i) (x.pC i)
 pi : ∀ i, i < x.pn → ∃ b, x.pA i = some ⟨b, 0, none⟩ ∧ b < W.heap.size ∧ InsAt W b 0 (x.pL i) (x.pH i)
 s : AllState W x.sa x.sn x.sQ
 w : RowS W x.wa x.wn fun i => .slice (x.wA i) (x.wL i) (x.wC i)
 wi : ∀ i, i < x.wn → ItL W (x.wA i) (x.wL i) (x.wH i)
 h : RowS W x.ha x.hn fun i => .slice (x.hA i) (x.hL i) (x.hC i)
 hi : ∀ i, i < x.hn → EvL W (x.hA i) (x.hL i) (x.hH i)
theorem SysG.below {w w' : World} {x : SysIn} (o : SysG w x) (hb : Below w.heap.size w w') : SysG w' x :=
 ⟨o.p.below hb, fun i hi => by
  obtain ⟨b, e, hlt, hI⟩ := o.pi i hi
  exact ⟨b, e, Nat.lt_of_lt_of_le hlt hb.size, hI.below hb hlt⟩, o.s.below hb, o.w.below hb, fun i hi => (o.wi i hi).below hb, o.h.below hb, fun i hi => (o.hi i hi).below hb⟩
structure SysIn.Len (x : SysIn) : Prop where
 p : x.pn ≤ 1048576 ∧ ∀ i, i < x.pn → x.pL i ≤ 1048576
 s : x.sn ≤ 1048576 ∧ ∀ i, i < x.sn → (x.sQ i).rs.length ≤ 1048576 ∧ (x.sQ i).os.length ≤ 1048576
 w : x.wn ≤ 1048576 ∧ ∀ i, i < x.wn → x.wL i ≤ 1048576
 h : x.hn ≤ 1048576 ∧ ∀ i, i < x.hn → x.hL i ≤ 1048576
abbrev SysIn.v (x : SysIn) : Value := sysV x.pa x.pn x.pc x.sa x.sn x.sc x.wa x.wn x.wc x.ha x.hn x.hc
variable {z : Bool}
structure OwnS (z : Bool) (w : World) (B : Nat) (c : Nat → Nat) (y : Sy) (vp vs vw vh : Value) (up us uw uh : Nat → Value) : Prop where
 p : LI z w (Cl B c 1) vp y.pn up y.pL y.pH
 s : LS w (Cl B c 2) vs y.sn us y.sS
 t : LT z w (Cl B c 3) vw y.wn uw y.wL y.wH
 h : LE z w (Cl B c 4) vh y.hn uh y.hL y.hH
theorem OwnS.below {w w' : World} {B : Nat} {c : Nat → Nat} {y : Sy} {vp vs vw vh : Value} {up us uw uh : Nat → Value} (o : OwnS z w B c y vp vs vw vh up us uw uh) (hb : Below w.heap.size w w') : OwnS z w' B c y vp vs vw vh up us uw uh := ⟨o.p.below hb, o.s.below hb, o.t.below hb, o.h.below hb⟩
def OwnSys (z : Bool) (w : World) (B : Nat) (y : Sy) (v : Value) : Prop := ∃ c vp vs vw vh up us uw uh, v = .agg #[vp, vs, vw, vh] ∧ OwnS z w B c y vp vs vw vh up us uw uh
theorem OwnSys.below {w w' : World} {B : Nat} {y : Sy} {v : Value} (o : OwnSys z w B y v) (hb : Below w.heap.size w w') : OwnSys z w' B y v := by
 obtain ⟨c, vp, vs, vw, vh, up, us, uw, uh, e, o⟩ := o
 exact ⟨c, vp, vs, vw, vh, up, us, uw, uh, e, o.below hb⟩
theorem stepR_append_src {ops : Array Oper} {o : Oper} {a : Act} {K : Act → World → Prop} {Q : Exit → Act → World → Prop} {E : Prop} {t e : TypeId} {size bytes : Nat} (KK : Kind t e size bytes) (w : World) (hg : o.guard = none) (s x : Operand)
  (ho : o.op = .call { callee := .builtin .append, args := #[s, x], argTypes := #[t, t] })
  (B : Nat) (v : Value) (n : Nat) (xs : List Value) (hs : a.eval s = v) (hown : w.ownsRow B e size v n xs) (a0 : Option Addr) (m c : Nat) (news : List Value) (hx : a.eval x = .slice a0 m c) (hl : news.length = m * size) (hsrc : Src w a0 news) (h1 : ∀ u ∈ news, u.oneCell' = true) (hnm : n + m ≤ 4000000) (hB : B ≤ w.heap.size)
  (h : ∀ v' w', w'.ownsRow B e size v' (n + m) (xs ++ news) → w.grownBy w' v.ownBlock → (v'.ownBlock = v.ownBlock ∨ v'.ownBlock = some w.heap.size) → (v ≠ .slice none 0 0 ∨ 0 < m → v' ≠ .slice none 0 0) → K (a.put o.dst v') w') :
  if Region.wanted o (yielded ops a.tmps) = true then Oper.wp Tryz.prog o a w K Q else E := by
 obtain ⟨v', w', r1, r2, r3, r4, r5⟩ := run_append_src KK w o.type B v n xs hown a0 m c news hl hsrc h1 hnm hB
 have hw : Region.wanted o (yielded ops a.tmps) = true := by simp [Region.wanted, hg]
 rw [if_pos hw]
 unfold Oper.wp execOp
 simp only [ho, resolve, invoke, builtin, Sem.run_bind, Sem.run_pure, Result.andThen_ok, List.map_toArray, List.map_cons, List.map_nil, hs, hx, r1]
 exact h v' w' r2 r3 r4 r5
theorem stepR_append_srcN {ops : Array Oper} {o : Oper} {a : Act} {K : Act → World → Prop} {Q : Exit → Act → World → Prop} {E : Prop} {t e : TypeId} {size bytes : Nat} (KK : Kind t e size bytes) (w : World) {N : Nat} (hN : N = w.heap.size) (hg : o.guard = none) (s x : Operand)
  (ho : o.op = .call { callee := .builtin .append, args := #[s, x], argTypes := #[t, t] })
  (a0 : Option Addr) (m c : Nat) (news : List Value) (hs : a.eval s = .slice (some ⟨N, 0, none⟩) 0 0) (hx : a.eval x = .slice a0 m c) (hl : news.length = m * size) (hsrc : Src w a0 news) (h1 : ∀ u ∈ news, u.oneCell' = true) (hnm : m ≤ 4000000)
  (h : ∀ v' w', w'.ownsRow w.heap.size e size v' m news → Below w.heap.size w w' → v' ≠ .slice none 0 0 → K (a.put o.dst v') w') :
  if Region.wanted o (yielded ops a.tmps) = true then Oper.wp Tryz.prog o a (w.alloc (.cells #[] e)) K Q else E := by
 subst hN
 have hb : Below w.heap.size w (w.alloc (.cells #[] e)) := below_allocL _ _
 refine stepR_append_src KK _ hg s x ho w.heap.size (.slice (some ⟨w.heap.size, 0, none⟩) 0 0) 0 [] hs (World.ownsRow_made (base := w.heap.size) (e := e) (size := size) w #[] 0 (Nat.le_refl _) (by unfold maxLen; omega) (by simp)) a0 m c news hx hl (hsrc.below hb) h1 (by omega) (by simp) ?_
 intro v' w' o g _ hne
 rw [Nat.zero_add, List.nil_append] at o
 exact h v' w' o (hb.grown g (by simp) (fun k hk => by cases hk; exact Nat.le_refl _)) (hne (.inl (by simp)))
theorem stepR_append_val {ops : Array Oper} {o : Oper} {a : Act} {K : Act → World → Prop} {Q : Exit → Act → World → Prop} {E : Prop} {t e : TypeId} {size bytes : Nat} (KK : Kind t e size bytes) (w : World) {N : Nat} (hN : N = w.heap.size) (hg : o.guard = none) (s x : Operand)
  (ho : o.op = .call { callee := .builtin .append, args := #[s, x], argTypes := #[t, t] })
  (B : Nat) (v : Value) (n : Nat) (xs : List Value) (hs : a.eval s = v) (hown : w.ownsRow B e size v n xs) (cs : Array Value) (hx : a.eval x = .slice (some ⟨N, 0, none⟩) 1 1) (hl : cs.size = size) (h1 : ∀ u ∈ cs.toList, u.oneCell' = true) (hn : n ≤ 2000000) (hB : B ≤ w.heap.size)
  (h : ∀ v' w', w'.ownsRow B e size v' (n + 1) (xs ++ cs.toList) → w.grownBy w' v.ownBlock → (∀ j, v'.ownBlock = some j → v.ownBlock = some j ∨ w.heap.size ≤ j) → v' ≠ .slice none 0 0 → K (a.put o.dst v') w') :
  if Region.wanted o (yielded ops a.tmps) = true then Oper.wp Tryz.prog o a (w.alloc (.cells cs e)) K Q else E := by
 subst hN
 have hb : Below w.heap.size w (w.alloc (.cells cs e)) := below_allocL _ _
 refine stepR_append_src KK _ hg s x ho B v n xs hs (hown.alloc _) (some ⟨w.heap.size, 0, none⟩) 1 1 cs.toList hx (by simp [hl]) (.inr ⟨w.heap.size, 0, rfl, by simp, fun j u hj => ?_⟩) h1 (by omega) (by simp; omega) ?_
 ·rw [Nat.zero_add, new_cell _ _ _ j rfl]
  simpa using hj
 ·intro v' w' o g hbk hne
  refine h v' w' o ⟨g.os, g.tape, g.output, Nat.le_trans hb.size g.size, fun j hj hne => (g.block j (Nat.lt_of_lt_of_le hj hb.size) hne).trans (hb.block j hj)⟩ (fun j hj => ?_) (hne (.inr (by omega)))
  rcases hbk with a | a
  ·exact .inl (a.symm.trans hj)
  ·rw [hj] at a
   simp only [Option.some.injEq] at a
   right
   rw [a]
   simp
theorem stepR_call {ops : Array Oper} {o : Oper} {a : Act} {w : World} {K : Act → World → Prop} {Q : Exit → Act → World → Prop} {E : Prop} (hg : o.guard = none) (f : FuncId) (args : Array Operand) (ts : Array TypeId)
  (ho : o.op = .call { callee := .value (.func f), args := args, argTypes := ts }) (vals : Array Value) (hv : args.map a.eval = vals) (hen : ∀ vs wx, (callFunc f vs).run Tryz.prog wx = .ok (.enter f vs) wx) {post : Ending → World → Prop} (hc : Calls Tryz.prog f vals w post)
  (h : ∀ e w', post e w' → ∃ v, e = .returned v ∧ K (a.put o.dst v) w') :
  if Region.wanted o (yielded ops a.tmps) = true then Oper.wp Tryz.prog o a w K Q else E := by
 have hw : Region.wanted o (yielded ops a.tmps) = true := by simp [Region.wanted, hg]
 rw [if_pos hw]
 have hr : (execOp a.eval o).run Tryz.prog w = .ok (.enter f vals) w := by
  unfold execOp
  simp [ho, resolve, invoke, hv, hen, Act.eval, Deferred.ofValue]
 unfold Oper.wp
 rw [hr, Oper.upon_enter]
 refine hc.mono fun e w' hp => ?_
 obtain ⟨v, rfl, hk⟩ := h e w' hp
 exact hk
def rcol (c : Nat → Nat) (n q : Nat) : Nat → Nat := fun k => if k < n then c k else q
theorem rcol_old {c : Nat → Nat} {n q k : Nat} (h : k < n) : rcol c n q k = c k := if_pos h
theorem rcol_new {c : Nat → Nat} {n q k : Nat} (h : n ≤ k) : rcol c n q k = q := if_neg (by omega)
theorem Cl.old {B : Nat} {c : Nat → Nat} {n q i k : Nat} (h : Cl B c i k) (hk : k < n) : Cl B (rcol c n q) i k := ⟨h.1, (rcol_old hk).trans h.2⟩
structure CpB (B N : Nat) (c : Nat → Nat) (y : Sy) (ks kw : Nat) (wx : World) (vp vs vw vh : Value) (up us uw uh : Nat → Value) : Prop where
 bx : BoxC wx N vp vs vw vh
 fr : ∀ j, wx.frozen? ⟨N, j, none⟩ = false
 cN : c N = 0
 bN : B ≤ N
 o : OwnS true wx B c { y with sn := ks, wn := kw } vp vs vw vh up us uw uh
section
variable {B N : Nat} {c : Nat → Nat} {y : Sy} {ks kw : Nat} {wr : World} {vp vs vw vh : Value} {up us uw uh : Nat → Value}
theorem CpB.lt (h : CpB B N c y ks kw wr vp vs vw vh up us uw uh) : N < wr.heap.size := World.block_lt_of_cell? wr _ h.bx.1
theorem CpB.state (h : CpB B N c y ks kw wr vp vs vw vh up us uw uh) {w1 w3 : World} {u' v' : Value} (b1 : Below wr.heap.size wr w1) (hu : StOwn w1 wr.heap.size u' (y.sS ks).p (y.sS ks).rs (y.sS ks).os (y.sS ks).c) (hv : w3.ownsRow 0 46 4 v' (ks + 1) (flat (fun i => cellsL (us i)) ks ++ cellsL u')) (g : w1.grownBy w3 vs.ownBlock) (hv' : ∀ j, v'.ownBlock = some j → vs.ownBlock = some j ∨ w1.heap.size ≤ j) :
  CpB B N (rcol c wr.heap.size 2) y (ks + 1) kw (w3.setCell ⟨N, 1, none⟩ v') vp v' vw vh up (fun j => if j = ks then u' else us j) uw uh := by
 have hN := h.lt
 have hkeep : ∀ k, k < wr.heap.size → c k ≠ 2 → w3.heap[k]? = wr.heap[k]? := fun k hk hc => (g.block k (Nat.lt_of_lt_of_le hk b1.size) fun e => hc (h.o.s.rb k e.symm).2).trans (b1.block k hk)
 have hset : ∀ k, k ≠ N → (w3.setCell ⟨N, 1, none⟩ v').heap[k]? = w3.heap[k]? := fun k hk => Below.heap_setCell _ _ _ _ hk
 have hcN : rcol c wr.heap.size 2 N = 0 := (rcol_old hN).trans h.cN
 have hBN : w3.heap[N]? = wr.heap[N]? := hkeep N hN (by rw [h.cN]; decide)
 have hkk : ∀ i, i ≠ 2 → i ≠ 0 → ∀ k, Cl B (rcol c wr.heap.size 2) i k → k < wr.heap.size → (w3.setCell ⟨N, 1, none⟩ v').heap[k]? = wr.heap[k]? := fun i h2 h0 k hk hl => by
  have e : c k = i := (rcol_old hl).symm.trans hk.2
  exact (hset k fun en => h0 (by rw [← e, en, h.cN])).trans (hkeep k hl (by rw [e]; exact h2))
 have hP : ∀ i k, Cl B c i k → k < wr.heap.size → Cl B (rcol c wr.heap.size 2) i k := fun i k hk hl => hk.old hl
 have hP' : ∀ k, wr.heap.size ≤ k → k < w3.heap.size → Cl B (rcol c wr.heap.size 2) 2 k := fun k hk _ => ⟨Nat.le_trans h.bN (Nat.le_trans (Nat.le_of_lt hN) hk), rcol_new hk⟩
 obtain ⟨x0, x1, x2, x3⟩ := h.bx
 have hc : ∀ j, w3.cell? ⟨N, j, none⟩ = wr.cell? ⟨N, j, none⟩ := fun j => World.cell?_of_block hBN
 have hnew : ∀ k, Cl B (rcol c wr.heap.size 2) 2 k → k < w3.heap.size → (w3.setCell ⟨N, 1, none⟩ v').heap[k]? = w3.heap[k]? := fun k hk _ => hset k fun e => by
  have e2 := hk.2
  rw [e, hcN] at e2
  cases e2
 refine ⟨⟨?_, ?_, ?_, ?_⟩, fun j => ?_, hcN, h.bN, ⟨?_, ?_, ?_, ?_⟩⟩
 ·rw [World.cell?_setCell_other _ _ _ _ (by simp), hc]; exact x0
 ·exact World.cell?_setCell_same _ _ _ ((hc 1).trans x1)
 ·rw [World.cell?_setCell_other _ _ _ _ (by simp), hc]; exact x2
 ·rw [World.cell?_setCell_other _ _ _ _ (by simp), hc]; exact x3
 ·rw [World.frozen?_setCell, World.frozen?_of_block hBN]; exact h.fr j
 ·exact (h.o.p.mono (hP 1)).keep (hkk 1 (by decide) (by decide))
 ·exact (h.o.s.push b1 hu hv g hv' (hP 2) hP').keep hnew
 ·exact (h.o.t.mono (hP 3)).keep (hkk 3 (by decide) (by decide))
 ·exact (h.o.h.mono (hP 4)).keep (hkk 4 (by decide) (by decide))
theorem CpB.way (h : CpB B N c y ks kw wr vp vs vw vh up us uw uh) {w1 w3 : World} {u' v' : Value} (b1 : Below wr.heap.size wr w1) (hu : w1.ownsRow wr.heap.size 75 2 u' (y.wL kw) (fT (y.wH kw) (y.wL kw))) (hne : u' ≠ .slice none 0 0) (hv : w3.ownsRow 0 32 1 v' (kw + 1) ((List.range kw).map uw ++ [u'])) (g : w1.grownBy w3 vw.ownBlock) (hv' : ∀ j, v'.ownBlock = some j → vw.ownBlock = some j ∨ w1.heap.size ≤ j) :
  CpB B N (rcol c wr.heap.size 3) y ks (kw + 1) (w3.setCell ⟨N, 2, none⟩ v') vp vs v' vh up us (fun j => if j = kw then u' else uw j) uh := by
 have hN := h.lt
 have hkeep : ∀ k, k < wr.heap.size → c k ≠ 3 → w3.heap[k]? = wr.heap[k]? := fun k hk hc => (g.block k (Nat.lt_of_lt_of_le hk b1.size) fun e => hc (h.o.t.rb k e.symm).2).trans (b1.block k hk)
 have hset : ∀ k, k ≠ N → (w3.setCell ⟨N, 2, none⟩ v').heap[k]? = w3.heap[k]? := fun k hk => Below.heap_setCell _ _ _ _ hk
 have hcN : rcol c wr.heap.size 3 N = 0 := (rcol_old hN).trans h.cN
 have hBN : w3.heap[N]? = wr.heap[N]? := hkeep N hN (by rw [h.cN]; decide)
 have hkk : ∀ i, i ≠ 3 → i ≠ 0 → ∀ k, Cl B (rcol c wr.heap.size 3) i k → k < wr.heap.size → (w3.setCell ⟨N, 2, none⟩ v').heap[k]? = wr.heap[k]? := fun i h2 h0 k hk hl => by
  have e : c k = i := (rcol_old hl).symm.trans hk.2
  exact (hset k fun en => h0 (by rw [← e, en, h.cN])).trans (hkeep k hl (by rw [e]; exact h2))
 have hP : ∀ i k, Cl B c i k → k < wr.heap.size → Cl B (rcol c wr.heap.size 3) i k := fun i k hk hl => hk.old hl
 have hP' : ∀ k, wr.heap.size ≤ k → k < w3.heap.size → Cl B (rcol c wr.heap.size 3) 3 k := fun k hk _ => ⟨Nat.le_trans h.bN (Nat.le_trans (Nat.le_of_lt hN) hk), rcol_new hk⟩
 obtain ⟨x0, x1, x2, x3⟩ := h.bx
 have hc : ∀ j, w3.cell? ⟨N, j, none⟩ = wr.cell? ⟨N, j, none⟩ := fun j => World.cell?_of_block hBN
 have hnew : ∀ k, Cl B (rcol c wr.heap.size 3) 3 k → k < w3.heap.size → (w3.setCell ⟨N, 2, none⟩ v').heap[k]? = w3.heap[k]? := fun k hk _ => hset k fun e => by
  have e2 := hk.2
  rw [e, hcN] at e2
  cases e2
 refine ⟨⟨?_, ?_, ?_, ?_⟩, fun j => ?_, hcN, h.bN, ⟨?_, ?_, ?_, ?_⟩⟩
 ·rw [World.cell?_setCell_other _ _ _ _ (by simp), hc]; exact x0
 ·rw [World.cell?_setCell_other _ _ _ _ (by simp), hc]; exact x1
 ·exact World.cell?_setCell_same _ _ _ ((hc 2).trans x2)
 ·rw [World.cell?_setCell_other _ _ _ _ (by simp), hc]; exact x3
 ·rw [World.frozen?_setCell, World.frozen?_of_block hBN]; exact h.fr j
 ·exact (h.o.p.mono (hP 1)).keep (hkk 1 (by decide) (by decide))
 ·exact (h.o.s.mono (hP 2)).keep (hkk 2 (by decide) (by decide))
 ·exact (h.o.t.push b1 hu (fun _ => hne) hv g hv' (hP 3) hP').keep hnew
 ·exact (h.o.h.mono (hP 4)).keep (hkk 4 (by decide) (by decide))
end
variable {z : Bool}
theorem cloneIns_own (b off n cap : Nat) (H : Nat → I5) (w : World) (hn : n ≤ 1048576) (hI : Src w (some ⟨b, off, none⟩) (fI H n)) :
  Calls Tryz.prog 175 #[.slice (some ⟨b, off, none⟩) n cap] w fun e w' => ∃ a c, e = .returned (.slice a n c) ∧ w'.ownsRow w.heap.size 136 5 (.slice a n c) n (fI H n) ∧ Value.slice a n c ≠ .slice none 0 0 ∧ Below w.heap.size w w' := by
 have HI : Hid (Src w (some ⟨b, off, none⟩) (fI H n)) := hI
 have he : ∀ wx : World, (binOp .eql 87 (.slice (some ⟨b, off, none⟩) n cap) (.slice none 0 0)).run Tryz.prog wx = .ok (.bool false) wx := fun wx => by kernel_rfl
 clear hI
 go_enter Tryz.func175, Tryz.ntmps175
 go_wp2_with (at_builtin; refine step_append_srcN kndI w rfl rfl _ _ rfl (some ⟨b, off, none⟩) n cap (fI H n) rfl rfl (fI_len _ _) HI.out (fI_one _ _) (by omega) ?_; intro v4 w4 o4 b4 n4; obtain ⟨a4, c4, rfl⟩ := ownsRow_slice o4; have F4 : Hid (w4.ownsRow w.heap.size 136 5 (.slice a4 n c4) n (fI H n) ∧ Value.slice a4 n c4 ≠ .slice none 0 0 ∧ Below w.heap.size w w4) := ⟨o4, n4, b4⟩; clear o4 b4 n4)
 go_ret
 exact ⟨_, _, rfl, F4.out⟩
theorem cloneItem_own (b off n cap : Nat) (H : Nat → I2) (w : World) (hn : n ≤ 1048576) (hI : Src w (some ⟨b, off, none⟩) (fT H n)) :
  Calls Tryz.prog 53 #[.slice (some ⟨b, off, none⟩) n cap] w fun e w' => ∃ a c, e = .returned (.slice a n c) ∧ w'.ownsRow w.heap.size 75 2 (.slice a n c) n (fT H n) ∧ Value.slice a n c ≠ .slice none 0 0 ∧ Below w.heap.size w w' := by
 have HI : Hid (Src w (some ⟨b, off, none⟩) (fT H n)) := hI
 have he : ∀ wx : World, (binOp .eql 32 (.slice (some ⟨b, off, none⟩) n cap) (.slice none 0 0)).run Tryz.prog wx = .ok (.bool false) wx := fun wx => by kernel_rfl
 clear hI
 go_enter Tryz.func53, Tryz.ntmps53
 go_wp2_with (at_builtin; refine step_append_srcN kndT w rfl rfl _ _ rfl (some ⟨b, off, none⟩) n cap (fT H n) rfl rfl (fT_len _ _) HI.out (fT_one _ _) (by omega) ?_; intro v4 w4 o4 b4 n4; obtain ⟨a4, c4, rfl⟩ := ownsRow_slice o4; have F4 : Hid (w4.ownsRow w.heap.size 75 2 (.slice a4 n c4) n (fT H n) ∧ Value.slice a4 n c4 ≠ .slice none 0 0 ∧ Below w.heap.size w w4) := ⟨o4, n4, b4⟩; clear o4 b4 n4)
 go_ret
 exact ⟨_, _, rfl, F4.out⟩
theorem cloneItem_none (w : World) :
  Calls Tryz.prog 53 #[.slice none 0 0] w fun e w' => e = .returned (.slice none 0 0) ∧ Below w.heap.size w w' := by
 have he : ∀ wx : World, (binOp .eql 32 (.slice none 0 0) (.slice none 0 0)).run Tryz.prog wx = .ok (.bool true) wx := fun wx => by kernel_rfl
 go_enter Tryz.func53, Tryz.ntmps53
 go_wp2
 go_ret
 exact ⟨rfl, Below.refl _ _⟩
theorem CpB.start {B l5 l6 N : Nat} {w5 w6 wf : World} {x : SysIn} {vp vh : Value} {up uh : Nat → Value} (o5 : LI true w5 (fun k => l5 ≤ k ∧ k < w5.heap.size) vp x.pn up x.pL x.pH) (o6 : LE true w6 (fun k => l6 ≤ k ∧ k < w6.heap.size) vh x.hn uh x.hL x.hH) (hb : Below w5.heap.size w5 w6) (h5 : B ≤ l5) (h6 : w5.heap.size ≤ l6) (h56 : B ≤ w5.heap.size) (h55 : l5 ≤ w5.heap.size)
  (hN : N < l5 ∨ (w5.heap.size ≤ N ∧ N < l6) ∨ w6.heap.size ≤ N) (hBN : B ≤ N) (hf : ∀ k, k < w6.heap.size → k ≠ N → wf.heap[k]? = w6.heap[k]?) (hbx : BoxC wf N vp (.slice none 0 0) (.slice none 0 0) vh) (hfr : ∀ j, wf.frozen? ⟨N, j, none⟩ = false) :
  ∃ c vp vh up uh, CpB B N c x.y 0 0 wf vp (.slice none 0 0) (.slice none 0 0) vh up (fun _ => .slice none 0 0) (fun _ => .slice none 0 0) uh := by
 have hs := hb.size
 have hc0 : ∀ k, Cl B (fun k => if k = N then 0 else if k < w5.heap.size then 1 else 4) 1 k ∨ Cl B (fun k => if k = N then 0 else if k < w5.heap.size then 1 else 4) 4 k → k ≠ N := fun k hk e => by
  rcases hk with hk | hk
  ·have e2 : (if k = N then 0 else if k < w5.heap.size then 1 else 4) = 1 := hk.2
   rw [if_pos e] at e2
   cases e2
  ·have e2 : (if k = N then 0 else if k < w5.heap.size then 1 else 4) = 4 := hk.2
   rw [if_pos e] at e2
   cases e2
 have g5 : LI true w5 (Cl B (fun k => if k = N then 0 else if k < w5.heap.size then 1 else 4) 1) vp x.pn up x.pL x.pH := o5.mono fun k hk _ => ⟨by omega, by
  show (if k = N then 0 else if k < w5.heap.size then 1 else 4) = 1
  rw [if_neg (by omega), if_pos hk.2]⟩
 have g6 : LE true w6 (Cl B (fun k => if k = N then 0 else if k < w5.heap.size then 1 else 4) 4) vh x.hn uh x.hL x.hH := o6.mono fun k hk _ => ⟨by omega, by
  show (if k = N then 0 else if k < w5.heap.size then 1 else 4) = 4
  rw [if_neg (by omega), if_neg (by omega)]⟩
 exact ⟨fun k => if k = N then 0 else if k < w5.heap.size then 1 else 4, vp, vh, up, uh, hbx, hfr, if_pos rfl, hBN, ⟨g5.keep fun k hk hl => (hf k (by omega) (hc0 k (.inl hk))).trans (hb.block k hl), LS.nil _ _ _ _, LL.nil _ _ _ _ _ _ _ _, g6.keep fun k hk hl => hf k hl (hc0 k (.inr hk))⟩⟩
theorem l4Copy_any (x : SysIn) (w : World) (hG : SysG w x) (hL : x.Len) :
  Calls Tryz.prog 75 #[x.v] w fun e w' => ∃ v, e = .returned v ∧ OwnSys true w' w.heap.size x.y v ∧ Below w.heap.size w w' := by
 have HG : Hid (SysG w x) := hG
 have HL : Hid x.Len := hL
 have hsn' : (x.sn : Int) ≤ 1048576 := by have := hL.s.1; omega
 have hwn' : (x.wn : Int) ≤ 1048576 := by have := hL.w.1; omega
 have BW : Hid (Below w.heap.size w ((w.alloc (oQ4 x.pa x.pn x.pc x.sa x.sn x.sc x.wa x.wn x.wc x.ha x.hn x.hc)).alloc (zQ3))) := (below_allocL _ _).trans ((below_allocL _ _).mono (by simp))
 have NB : Hid (BoxC ((w.alloc (oQ4 x.pa x.pn x.pc x.sa x.sn x.sc x.wa x.wn x.wc x.ha x.hn x.hc)).alloc (zQ3)) w.heap.size (.slice x.pa x.pn x.pc) (.slice x.sa x.sn x.sc) (.slice x.wa x.wn x.wc) (.slice x.ha x.hn x.hc)) := (BoxC.new w _ _ _ _ _).below (below_allocL _ _)
 have RB : Hid (BoxC ((w.alloc (oQ4 x.pa x.pn x.pc x.sa x.sn x.sc x.wa x.wn x.wc x.ha x.hn x.hc)).alloc (zQ3)) (w.heap.size + 1) (.slice none 0 0) (.slice none 0 0) (.slice none 0 0) (.slice none 0 0) ∧ ∀ j, ((w.alloc (oQ4 x.pa x.pn x.pc x.sa x.sn x.sc x.wa x.wn x.wc x.ha x.hn x.hc)).alloc (zQ3)).frozen? ⟨w.heap.size + 1, j, none⟩ = false) := ⟨⟨new_cell _ _ _ 0 (by simp), new_cell _ _ _ 1 (by simp), new_cell _ _ _ 2 (by simp), new_cell _ _ _ 3 (by simp)⟩, fun j => new_frozen _ _ _ _ (by simp)⟩
 have hz : ((w.alloc (oQ4 x.pa x.pn x.pc x.sa x.sn x.sc x.wa x.wn x.wc x.ha x.hn x.hc)).alloc (zQ3)).heap.size = w.heap.size + 2 := by simp
 clear hG hL
 go_enter Tryz.func75, Tryz.ntmps75
 go_wp2_with fail
 generalize (w.alloc (oQ4 x.pa x.pn x.pc x.sa x.sn x.sc x.wa x.wn x.wc x.ha x.hn x.hc)).alloc (zQ3) = W2 at *
 obtain ⟨b0, b1, b2, b3⟩ := NB.out
 have d1 : W2.heap.size ≠ w.heap.size := by omega
 have hl0 : w.heap.size < W2.heap.size := by omega
 have hl1 : w.heap.size + 1 < W2.heap.size := by omega
 have hl2 : Hid (w.heap.size ≤ W2.heap.size) := by show w.heap.size ≤ W2.heap.size; omega
 clear hz
 have HP : Hid (∀ wx, Below W2.heap.size W2 wx → (RowS wx x.pa x.pn fun i => .slice (x.pA i) (x.pL i) (x.pC i)) ∧ ∀ i, i < x.pn → Src wx (x.pA i) (fI (x.pH i) (x.pL i))) := fun wx hb => ⟨(HG.out.below (BW.out.trans (hb.mono BW.out.size))).p, fun i hi => by
  obtain ⟨b, e, hlt, hI⟩ := (HG.out.below (BW.out.trans (hb.mono BW.out.size))).pi i hi
  rw [e]
  exact srcI hlt hI⟩
 have HH : Hid (∀ wx, Below W2.heap.size W2 wx → (RowS wx x.ha x.hn fun i => .slice (x.hA i) (x.hL i) (x.hC i)) ∧ ∀ i, i < x.hn → Src wx (x.hA i) (fE (x.hH i) (x.hL i))) := fun wx hb => ⟨(HG.out.below (BW.out.trans (hb.mono BW.out.size))).h, fun i hi => srcE ((HG.out.below (BW.out.trans (hb.mono BW.out.size))).hi i hi)⟩
 go_cut [3] from 6 to 12 (fun s wx => ∃ N : Nat, s = .pointer (some ⟨N, 0, none⟩) ∧ Hid ((∃ c vp vh up uh, CpB W2.heap.size N c x.y 0 0 wx vp (.slice none 0 0) (.slice none 0 0) vh up (fun _ => (.slice none 0 0)) (fun _ => (.slice none 0 0)) uh) ∧ Below W2.heap.size W2 wx))
 case first =>
  refine wp_region_G (fun w' => w'.cell? ⟨w.heap.size, 0, none⟩ = some (.slice x.pa x.pn x.pc) ∧ w'.cell? ⟨w.heap.size, 3, none⟩ = some (.slice x.ha x.hn x.hc)) (fun i => i == 8) (by kernel_rfl) ?_
  have hHeld := And.intro b0 b3
  refine wpGT_of [0, 1, 3, 4] ?_
  iterate 4 (refine wpGT_take rfl hHeld ?_; apply Exists.intro; refine ⟨fun wq hSw => ?_, ?_⟩; (· ((try dsimp only at hSw); go_simp; try with_reducible rfl)); (try simp only [Act.put, List.setIfInBounds_toArray, List.set_cons_zero, List.set_cons_succ]))
  refine wpGT_nil ?_
  refine wpG_two 2 7 rfl rfl (by kernel_rfl) (fun K hK => ?_) (fun K hK => ?_)
  ·refine stepR_call rfl 142 _ _ rfl #[.slice x.pa x.pn x.pc] (by simp [Act.eval]) (run_enter Tryz.func142 (by kernel_rfl) rfl) (l4Ins_any x.pa x.pn x.pc x.pA x.pL x.pC x.pH (W2.drew) HL.out.p.1 HL.out.p.2 (HP.out _ (Below.refl _ _).drew).1 (HP.out _ (Below.refl _ _).drew).2) ?_
   rintro e w5 ⟨v5, u5, rfl, o5, b5⟩
   obtain ⟨a5, c5, rfl⟩ := ownsRow_slice o5.row
   refine ⟨_, rfl, ?_⟩
   have q5 : Below W2.heap.size W2 w5 := below_up (Below.refl _ _).drew b5 (by simp)
   have y0 := (q5.cell (p := ⟨w.heap.size, 0, none⟩) hl0).trans b0
   have y3 := (q5.cell (p := ⟨w.heap.size, 3, none⟩) hl0).trans b3
   have z5 := q5.size
   refine hK.out _ _ (fun _ => ⟨y0, y3⟩) ?_
   have hHeld := And.intro y0 y3
   clear hK K
   (try simp only [Act.put, List.setIfInBounds_toArray, List.set_cons_zero, List.set_cons_succ])
   refine wpG_two 5 7 rfl rfl (by kernel_rfl) (fun K hK => ?_) (fun K hK => ?_)
   ·refine stepR_call rfl 143 _ _ rfl #[.slice x.ha x.hn x.hc] (by simp [Act.eval]) (run_enter Tryz.func143 (by kernel_rfl) rfl) (l4Events_any x.ha x.hn x.hc x.hA x.hL x.hC x.hH (w5) HL.out.h.1 HL.out.h.2 (HH.out _ (q5.trans ((Below.refl w5.heap.size w5).mono q5.size))).1 (HH.out _ (q5.trans ((Below.refl w5.heap.size w5).mono q5.size))).2) ?_
    rintro e w6 ⟨v6, u6, rfl, o6, b6⟩
    obtain ⟨a6, c6, rfl⟩ := ownsRow_slice o6.row
    refine ⟨_, rfl, ?_⟩
    have p6 : Below w5.heap.size w5 w6 := below_up (Below.refl w5.heap.size w5) b6 (by simp)
    have q6 : Below W2.heap.size W2 w6 := q5.trans (p6.mono q5.size)
    have x0 := (q6.cell (p := ⟨w.heap.size, 0, none⟩) hl0).trans b0
    have x3 := (q6.cell (p := ⟨w.heap.size, 3, none⟩) hl0).trans b3
    have z6 := p6.size
    refine hK.out _ _ (fun _ => ⟨x0, x3⟩) ?_
    have hHeld := And.intro x0 x3
    clear hK K
    (try simp only [Act.put, List.setIfInBounds_toArray, List.set_cons_zero, List.set_cons_succ])
    refine wpG_take 6 rfl hHeld ?_
    apply Exists.intro
    refine ⟨fun wq hSw => ?_, ?_⟩
    ·(try dsimp only at hSw)
     go_simp
     try with_reducible rfl
    (try simp only [Act.put, List.setIfInBounds_toArray, List.set_cons_zero, List.set_cons_succ])
    refine wpG_one 7 rfl (by kernel_rfl) (fun K hK => ?_)
    go_simp
    have t0 : (w6.alloc (zQ3)).cell? ⟨w.heap.size, 0, none⟩ = some (.slice x.pa x.pn x.pc) := ((below_allocL w6 _).cell (p := ⟨w.heap.size, 0, none⟩) (Nat.lt_of_lt_of_le hl0 q6.size)).trans x0
    have t3 : (w6.alloc (zQ3)).cell? ⟨w.heap.size, 3, none⟩ = some (.slice x.ha x.hn x.hc) := ((below_allocL w6 _).cell (p := ⟨w.heap.size, 3, none⟩) (Nat.lt_of_lt_of_le hl0 q6.size)).trans x3
    refine hK.out _ _ (fun _ => ⟨t0, t3⟩) ?_
    clear hK K
    (try simp only [Act.put, List.setIfInBounds_toArray, List.set_cons_zero, List.set_cons_succ])
    refine wpG_one 8 rfl (by kernel_rfl) (fun K hK => ?_)
    go_simp
    refine hK.out _ _ (fun h => ?_) ?_
    ·exact absurd h (by decide)
    clear hK K
    (try simp only [Act.put])
    refine wpG_done (by kernel_rfl) ?_ _
    go_wp2_with fail
    go_meet
    case rel =>
     exact ⟨w6.heap.size, by with_reducible rfl, CpB.start (l5 := W2.heap.size) (by simpa using o5) o6 p6 (by omega) (by omega) (by omega) (by omega) (by omega) (by omega) (fun k hk _ => (below_allocL w6 _).block k hk) (BoxC.new _ _ _ _ _ _) (fun j => new_frozen _ _ _ _ rfl), q6.trans ((below_allocL _ _).mono q6.size)⟩
   ·go_simp
    have t0 : (w5.alloc (zQ3)).cell? ⟨w.heap.size, 0, none⟩ = some (.slice x.pa x.pn x.pc) := ((below_allocL w5 _).cell (p := ⟨w.heap.size, 0, none⟩) (Nat.lt_of_lt_of_le hl0 q5.size)).trans y0
    have t3 : (w5.alloc (zQ3)).cell? ⟨w.heap.size, 3, none⟩ = some (.slice x.ha x.hn x.hc) := ((below_allocL w5 _).cell (p := ⟨w.heap.size, 3, none⟩) (Nat.lt_of_lt_of_le hl0 q5.size)).trans y3
    refine hK.out _ _ (fun _ => ⟨t0, t3⟩) ?_
    clear hK K
    (try simp only [Act.put, List.setIfInBounds_toArray, List.set_cons_zero, List.set_cons_succ])
    refine wpG_one 5 rfl (by kernel_rfl) (fun K hK => ?_)
    refine stepR_call rfl 143 _ _ rfl #[.slice x.ha x.hn x.hc] (by simp [Act.eval]) (run_enter Tryz.func143 (by kernel_rfl) rfl) (l4Events_any x.ha x.hn x.hc x.hA x.hL x.hC x.hH (w5.alloc (zQ3)) HL.out.h.1 HL.out.h.2 (HH.out _ (q5.trans ((below_allocL w5 (zQ3)).mono q5.size))).1 (HH.out _ (q5.trans ((below_allocL w5 (zQ3)).mono q5.size))).2) ?_
    rintro e w6 ⟨v6, u6, rfl, o6, b6⟩
    obtain ⟨a6, c6, rfl⟩ := ownsRow_slice o6.row
    refine ⟨_, rfl, ?_⟩
    have p6 : Below w5.heap.size w5 w6 := below_up (below_allocL w5 (zQ3)) b6 (by simp)
    have q6 : Below W2.heap.size W2 w6 := q5.trans (p6.mono q5.size)
    have x0 := (q6.cell (p := ⟨w.heap.size, 0, none⟩) hl0).trans b0
    have x3 := (q6.cell (p := ⟨w.heap.size, 3, none⟩) hl0).trans b3
    have z6 := p6.size
    refine hK.out _ _ (fun _ => ⟨x0, x3⟩) ?_
    have hHeld := And.intro x0 x3
    clear hK K
    (try simp only [Act.put, List.setIfInBounds_toArray, List.set_cons_zero, List.set_cons_succ])
    have bx := (BoxC.new w5 (.slice none 0 0) (.slice none 0 0) (.slice none 0 0) (.slice none 0 0) 29).below b6
    obtain ⟨g0, g1, g2, g3⟩ := bx
    have gf : ∀ j, w6.frozen? ⟨w5.heap.size, j, none⟩ = false := fun j => ((bcell b6).2 _ _ (by simp)).trans (new_frozen _ _ _ _ rfl)
    refine wpG_take 6 rfl hHeld ?_
    apply Exists.intro
    refine ⟨fun wq hSw => ?_, ?_⟩
    ·(try dsimp only at hSw)
     go_simp
     try with_reducible rfl
    (try simp only [Act.put, List.setIfInBounds_toArray, List.set_cons_zero, List.set_cons_succ])
    refine wpG_one 8 rfl (by kernel_rfl) (fun K hK => ?_)
    go_simp
    refine hK.out _ _ (fun h => ?_) ?_
    ·exact absurd h (by decide)
    clear hK K
    (try simp only [Act.put])
    refine wpG_done (by kernel_rfl) ?_ _
    go_wp2_with fail
    go_meet
    case rel =>
     exact ⟨w5.heap.size, by with_reducible rfl, CpB.start (l5 := W2.heap.size) (l6 := w5.heap.size + 1) (by simpa using o5) (by simpa using o6) p6 (by omega) (by omega) (by omega) (by omega) (by omega) (by omega) (fun k hk hne => by repeat (rw [Below.heap_setCell _ _ _ _ hne])) (BoxC.set4 ⟨g0, g1, g2, g3⟩ _ _ _ _) (fun j => by simp only [World.frozen?_setCell]; exact gf j), (((q6.setCell q5.size _).setCell q5.size _).setCell q5.size _).setCell q5.size _⟩
  ·go_simp
   have t0 : (W2.drew.alloc (zQ3)).cell? ⟨w.heap.size, 0, none⟩ = some (.slice x.pa x.pn x.pc) := ((below_allocL W2.drew _).cell (p := ⟨w.heap.size, 0, none⟩) hl0).trans b0
   have t3 : (W2.drew.alloc (zQ3)).cell? ⟨w.heap.size, 3, none⟩ = some (.slice x.ha x.hn x.hc) := ((below_allocL W2.drew _).cell (p := ⟨w.heap.size, 3, none⟩) hl0).trans b3
   refine hK.out _ _ (fun _ => ⟨t0, t3⟩) ?_
   clear hK K
   (try simp only [Act.put, List.setIfInBounds_toArray, List.set_cons_zero, List.set_cons_succ])
   refine wpG_one 2 rfl (by kernel_rfl) (fun K hK => ?_)
   refine stepR_call rfl 142 _ _ rfl #[.slice x.pa x.pn x.pc] (by simp [Act.eval]) (run_enter Tryz.func142 (by kernel_rfl) rfl) (l4Ins_any x.pa x.pn x.pc x.pA x.pL x.pC x.pH (W2.drew.alloc (zQ3)) HL.out.p.1 HL.out.p.2 (HP.out _ ((Below.refl W2.heap.size W2).drew.trans (below_allocL W2.drew (zQ3)))).1 (HP.out _ ((Below.refl W2.heap.size W2).drew.trans (below_allocL W2.drew (zQ3)))).2) ?_
   rintro e w5 ⟨v5, u5, rfl, o5, b5⟩
   obtain ⟨a5, c5, rfl⟩ := ownsRow_slice o5.row
   refine ⟨_, rfl, ?_⟩
   have q5 : Below W2.heap.size W2 w5 := below_up ((Below.refl W2.heap.size W2).drew.trans (below_allocL W2.drew (zQ3))) b5 (by simp)
   have y0 := (q5.cell (p := ⟨w.heap.size, 0, none⟩) hl0).trans b0
   have y3 := (q5.cell (p := ⟨w.heap.size, 3, none⟩) hl0).trans b3
   have z5 := q5.size
   refine hK.out _ _ (fun _ => ⟨y0, y3⟩) ?_
   have hHeld := And.intro y0 y3
   clear hK K
   (try simp only [Act.put, List.setIfInBounds_toArray, List.set_cons_zero, List.set_cons_succ])
   have zc : W2.heap.size + 1 ≤ w5.heap.size := by have := b5.size; simpa using this
   refine wpG_one 5 rfl (by kernel_rfl) (fun K hK => ?_)
   refine stepR_call rfl 143 _ _ rfl #[.slice x.ha x.hn x.hc] (by simp [Act.eval]) (run_enter Tryz.func143 (by kernel_rfl) rfl) (l4Events_any x.ha x.hn x.hc x.hA x.hL x.hC x.hH (w5) HL.out.h.1 HL.out.h.2 (HH.out _ (q5.trans ((Below.refl w5.heap.size w5).mono q5.size))).1 (HH.out _ (q5.trans ((Below.refl w5.heap.size w5).mono q5.size))).2) ?_
   rintro e w6 ⟨v6, u6, rfl, o6, b6⟩
   obtain ⟨a6, c6, rfl⟩ := ownsRow_slice o6.row
   refine ⟨_, rfl, ?_⟩
   have p6 : Below w5.heap.size w5 w6 := below_up (Below.refl w5.heap.size w5) b6 (by simp)
   have q6 : Below W2.heap.size W2 w6 := q5.trans (p6.mono q5.size)
   have x0 := (q6.cell (p := ⟨w.heap.size, 0, none⟩) hl0).trans b0
   have x3 := (q6.cell (p := ⟨w.heap.size, 3, none⟩) hl0).trans b3
   have z6 := p6.size
   refine hK.out _ _ (fun _ => ⟨x0, x3⟩) ?_
   have hHeld := And.intro x0 x3
   clear hK K
   (try simp only [Act.put, List.setIfInBounds_toArray, List.set_cons_zero, List.set_cons_succ])
   have bx : BoxC w6 W2.heap.size (.slice none 0 0) (.slice none 0 0) (.slice none 0 0) (.slice none 0 0) := ((BoxC.new W2.drew (.slice none 0 0) (.slice none 0 0) (.slice none 0 0) (.slice none 0 0) 29).below b5).below b6
   obtain ⟨g0, g1, g2, g3⟩ := bx
   have gf : ∀ j, w6.frozen? ⟨W2.heap.size, j, none⟩ = false := fun j => ((bcell b6).2 _ _ (by omega)).trans (((bcell b5).2 _ _ (by simp)).trans (new_frozen _ _ _ _ rfl))
   refine wpG_take 6 rfl hHeld ?_
   apply Exists.intro
   refine ⟨fun wq hSw => ?_, ?_⟩
   ·(try dsimp only at hSw)
    go_simp
    try with_reducible rfl
   (try simp only [Act.put, List.setIfInBounds_toArray, List.set_cons_zero, List.set_cons_succ])
   refine wpG_one 8 rfl (by kernel_rfl) (fun K hK => ?_)
   go_simp
   refine hK.out _ _ (fun h => ?_) ?_
   ·exact absurd h (by decide)
   clear hK K
   (try simp only [Act.put])
   refine wpG_done (by kernel_rfl) ?_ _
   go_wp2_with fail
   go_meet
   case rel =>
    exact ⟨W2.heap.size, by with_reducible rfl, CpB.start (l5 := W2.heap.size + 1) (by simpa using o5) o6 p6 (by omega) (by omega) (by omega) (by omega) (by omega) (by omega) (fun k hk hne => by repeat (rw [Below.heap_setCell _ _ _ _ hne])) (BoxC.set4 ⟨g0, g1, g2, g3⟩ _ _ _ _) (fun j => by simp only [World.frozen?_setCell]; exact gf j), (((q6.setCell (Nat.le_refl _) _).setCell (Nat.le_refl _) _).setCell (Nat.le_refl _) _).setCell (Nat.le_refl _) _⟩
 case rest =>
  obtain ⟨N, rfl, HC⟩ := hcut
  clear b0 b1 b2 b3 HP HH
  go_wp2_with fail
  go_loopw [4] (fun i wr => ∃ k : Nat, k ≤ x.sn ∧ i = .int .i64 k ∧ Hid ((∃ c vp vs vh up us uh, CpB W2.heap.size N c x.y k 0 wr vp vs (.slice none 0 0) vh up us (fun _ => (.slice none 0 0)) uh) ∧ Below W2.heap.size W2 wr)) (fun i _ => x.sn - (intOf i).toNat)
  case atStart =>
   obtain ⟨⟨c, vp, vh, up, uh, cp⟩, bz⟩ := HC.out
   exact ⟨0, Nat.zero_le _, rfl, ⟨c, vp, _, vh, up, _, uh, cp⟩, bz⟩
  case round =>
   obtain ⟨k, hk, rfl, HZ⟩ := hrel
   clear HC
   by_cases hlt : k < x.sn
   ·have hlt' : (k : Int) < (x.sn : Int) := by omega
    obtain ⟨⟨c, vp, vs, vh, up, us, uh, cp⟩, bz⟩ := HZ.out
    obtain ⟨sa', sc', rfl⟩ := ownsRow_slice cp.o.s.row
    obtain ⟨x0, x1, x2, x3⟩ := cp.bx
    have xf := cp.fr
    have hN := cp.lt
    obtain ⟨b0, b1, b2, b3⟩ := NB.out.below bz
    obtain ⟨bs, os, es, s0, s1, s2, s3⟩ := (HG.out.below (BW.out.trans (bz.mono BW.out.size))).s.at hlt
    have hbs : bs < w.heap.size := by
     obtain ⟨bs', os', es', s0', -⟩ := HG.out.s.at hlt
     rw [es] at es'
     cases es'
     exact World.block_lt_of_cell? w _ s0'
    have hls := (HG.out.below (BW.out.trans (bz.mono BW.out.size))).s.lst k hlt
    have HLk := HL.out.s.2 k hlt
    rw [es] at b1
    have CP : Hid (CpB W2.heap.size N c x.y k 0 wr vp (.slice sa' k sc') (.slice none 0 0) vh up us (fun _ => (.slice none 0 0)) uh) := cp
    have LSt : Hid (Sl wr (x.sQ k).ra (x.sQ k).rs ∧ Sl wr (x.sQ k).oa (x.sQ k).os) := hls
    have BZ : Hid (Below W2.heap.size W2 wr) := bz
    have hbw : bs < wr.heap.size := by have := bz.size; omega
    have hb0w : w.heap.size < wr.heap.size := by have := bz.size; omega
    have hsaN : ∀ j, (Value.slice sa' k sc').ownBlock = some j → W2.heap.size ≤ j ∧ j ≠ N := fun j hj => ⟨(cp.o.s.rb j hj).1, fun e => by
     have h2 := (cp.o.s.rb j hj).2
     rw [e, cp.cN] at h2
     cases h2⟩
    have HSA : Hid (∀ j, (Value.slice sa' k sc').ownBlock = some j → W2.heap.size ≤ j ∧ j ≠ N) := hsaN
    have HE : Hid (x.sa = some ⟨bs, os, none⟩) := es
    clear cp bz hls HZ hsaN es
    go_wp2_with fail
    refine wp_region_G (fun w' => w'.cell? ⟨N, 1, none⟩ = some (.slice sa' k sc') ∧ w'.cell? ⟨w.heap.size, 1, none⟩ = some (.slice (some ⟨bs, os, none⟩) x.sn x.sc) ∧ w'.cell? ⟨bs, os + k * 4, none⟩ = some (.int .i64 (x.sQ k).p) ∧ w'.cell? ⟨bs, os + k * 4 + 1, none⟩ = some (.slice (x.sQ k).ra (x.sQ k).rs.length (x.sQ k).rc) ∧ w'.cell? ⟨bs, os + k * 4 + 2, none⟩ = some (.slice (x.sQ k).oa (x.sQ k).os.length (x.sQ k).oc) ∧ w'.cell? ⟨bs, os + k * 4 + 3, none⟩ = some (.int .i64 (x.sQ k).c)) (fun i => i == 11) (by kernel_rfl) ?_
    have hHeld := And.intro x1 (And.intro b1 (And.intro s0 (And.intro s1 (And.intro s2 s3))))
    refine wpGT_of [0, 1, 2, 3, 4, 5, 6] ?_
    iterate 7 (refine wpGT_take rfl hHeld ?_; apply Exists.intro; refine ⟨fun wq hSw => ?_, ?_⟩; (· ((try dsimp only at hSw); go_simp; try with_reducible rfl)); (try simp only [Act.put, List.setIfInBounds_toArray, List.set_cons_zero, List.set_cons_succ]))
    refine wpGT_nil ?_
    refine wpG_one 7 rfl (by kernel_rfl) (fun K hK => ?_)
    refine stepR_call rfl 144 _ _ rfl #[stV (x.sQ k).p (x.sQ k).ra (x.sQ k).rs.length (x.sQ k).rc (x.sQ k).oa (x.sQ k).os.length (x.sQ k).oc (x.sQ k).c] (by simp [Act.eval]) (run_enter Tryz.func144 (by kernel_rfl) rfl) (l2Copy_any _ _ _ _ _ _ (x.sQ k).rs (x.sQ k).os wr.drew HLk.1 HLk.2 LSt.out.1 LSt.out.2) ?_
    rintro e w1 ⟨v1, rfl, o1, d1'⟩
    refine ⟨_, rfl, ?_⟩
    obtain ⟨ra1, rc1, oa1, oc1, rfl, -, -⟩ := o1.read
    have q1 : Below wr.heap.size wr w1 := (Below.refl wr.heap.size wr).drew.trans d1'
    have O1 : Hid (StOwn w1 wr.heap.size (stV (x.sQ k).p ra1 (x.sQ k).rs.length rc1 oa1 (x.sQ k).os.length oc1 (x.sQ k).c) (x.sQ k).p (x.sQ k).rs (x.sQ k).os (x.sQ k).c) := o1
    have hc1 : ∀ b o, b < wr.heap.size → w1.cell? ⟨b, o, none⟩ = wr.cell? ⟨b, o, none⟩ := fun b o h => (bcell q1).1 b o h
    have hHeld1 := And.intro ((hc1 _ _ hN).trans x1) (And.intro ((hc1 _ _ hb0w).trans b1) (And.intro ((hc1 _ _ hbw).trans s0) (And.intro ((hc1 _ _ hbw).trans s1) (And.intro ((hc1 _ _ hbw).trans s2) ((hc1 _ _ hbw).trans s3)))))
    have Q1 : Hid (Below wr.heap.size wr w1) := q1
    refine hK.out _ _ (fun _ => hHeld1) ?_
    clear hHeld o1 d1' q1 hc1
    clear hK K
    (try simp only [Act.put, List.setIfInBounds_toArray, List.set_cons_zero, List.set_cons_succ])
    refine wpG_one 8 rfl (by kernel_rfl) (fun K hK => ?_)
    go_simp
    have ba := below_allocL w1 (oQ2 (x.sQ k).p ra1 (x.sQ k).rs.length rc1 oa1 (x.sQ k).os.length oc1 (x.sQ k).c)
    have hca : ∀ b o, b < wr.heap.size → (w1.alloc (oQ2 (x.sQ k).p ra1 (x.sQ k).rs.length rc1 oa1 (x.sQ k).os.length oc1 (x.sQ k).c)).cell? ⟨b, o, none⟩ = w1.cell? ⟨b, o, none⟩ := fun b o h => (bcell ba).1 b o (Nat.lt_of_lt_of_le h Q1.out.size)
    obtain ⟨e0, e1, e2, e3, e4, e5⟩ := hHeld1
    refine hK.out _ _ (fun _ => ⟨(hca _ _ hN).trans e0, (hca _ _ hb0w).trans e1, (hca _ _ hbw).trans e2, (hca _ _ hbw).trans e3, (hca _ _ hbw).trans e4, (hca _ _ hbw).trans e5⟩) ?_
    clear hca ba
    clear hK K
    (try simp only [Act.put, List.setIfInBounds_toArray, List.set_cons_zero, List.set_cons_succ])
    refine wpG_one 9 rfl (by kernel_rfl) (fun K hK => ?_)
    refine stepR_append_val kndS w1 rfl rfl _ _ rfl 0 (.slice sa' k sc') k _ rfl (CP.out.o.s.below Q1.out).row #[.int .i64 (x.sQ k).p, .slice ra1 (x.sQ k).rs.length rc1, .slice oa1 (x.sQ k).os.length oc1, .int .i64 (x.sQ k).c] rfl rfl (by intro u hu; simp at hu; rcases hu with rfl | rfl | rfl | rfl <;> rfl) (by omega) (Nat.zero_le _) ?_
    intro v3 w3 o3 g3 q3 n3
    obtain ⟨a3, c3, rfl⟩ := ownsRow_slice o3
    have hk3 : ∀ b, b < wr.heap.size → (b < W2.heap.size ∨ b = N) → w3.heap[b]? = w1.heap[b]? := fun b h1 h2 => g3.block b (Nat.lt_of_lt_of_le h1 Q1.out.size) fun e => by
     have := HSA.out b e.symm
     omega
    have hc3 : ∀ b o, b < wr.heap.size → (b < W2.heap.size ∨ b = N) → w3.cell? ⟨b, o, none⟩ = w1.cell? ⟨b, o, none⟩ := fun b o h1 h2 => World.cell?_of_block (hk3 b h1 h2)
    have hHeld := And.intro ((hc3 _ _ hN (.inr rfl)).trans e0) (And.intro ((hc3 _ _ hb0w (.inl hl0)).trans e1) (And.intro ((hc3 _ _ hbw (.inl (by omega))).trans e2) (And.intro ((hc3 _ _ hbw (.inl (by omega))).trans e3) (And.intro ((hc3 _ _ hbw (.inl (by omega))).trans e4) ((hc3 _ _ hbw (.inl (by omega))).trans e5)))))
    have hfN : ∀ j, w3.frozen? ⟨N, j, none⟩ = false := fun j => (World.frozen?_of_block (hk3 N hN (.inr rfl))).trans (((bcell Q1.out).2 N j hN).trans (xf j))
    have CN : Hid (CpB W2.heap.size N (rcol c wr.heap.size 2) x.y (k + 1) 0 (w3.setCell ⟨N, 1, none⟩ (.slice a3 (k + 1) c3)) vp (.slice a3 (k + 1) c3) (.slice none 0 0) vh up (fun j => if j = k then stV (x.sQ k).p ra1 (x.sQ k).rs.length rc1 oa1 (x.sQ k).os.length oc1 (x.sQ k).c else us j) (fun _ => (.slice none 0 0)) uh) := CP.out.state Q1.out O1.out o3 g3 q3
    have BN : Hid (Below W2.heap.size W2 (w3.setCell ⟨N, 1, none⟩ (.slice a3 (k + 1) c3))) := (Below.grown (BZ.out.trans (Q1.out.mono BZ.out.size)) g3 (Nat.le_trans BZ.out.size Q1.out.size) (fun j hj => (HSA.out j hj).1)).setCell CP.out.bN _
    refine hK.out _ _ (fun _ => hHeld) ?_
    clear o3 g3 q3 n3 hk3 hc3
    clear hK K
    (try simp only [Act.put, List.setIfInBounds_toArray, List.set_cons_zero, List.set_cons_succ])
    refine wpG_take 10 rfl hHeld ?_
    apply Exists.intro
    refine ⟨fun wq hSw => ?_, ?_⟩
    ·(try dsimp only at hSw)
     go_simp
     try with_reducible rfl
    (try simp only [Act.put, List.setIfInBounds_toArray, List.set_cons_zero, List.set_cons_succ])
    refine wpG_one 11 rfl (by kernel_rfl) (fun K hK => ?_)
    have hcN := hHeld.1
    have hfN1 := hfN 1
    go_simp
    refine hK.out _ _ (fun h => ?_) ?_
    ·exact absurd h (by decide)
    clear hK K
    (try simp only [Act.put])
    refine wpG_done (by kernel_rfl) ?_ _
    go_wp2
    go_roundw
    case rel => exact ⟨k + 1, by omega, by go_num, ⟨_, _, _, _, _, _, _, CN.out⟩, BN.out⟩
    case measure => simp [intOf]; omega
   ·have hkn : k = x.sn := by omega
    subst hkn
    have hsb : ∀ wx, Below W2.heap.size W2 wx → wx.cell? ⟨w.heap.size, 1, none⟩ = some (.slice x.sa x.sn x.sc) := fun wx hb => (NB.out.below hb).2.1
    have b1 := hsb wr HZ.out.2
    clear hsb
    go_wp2_with fail
    clear b1
    go_loopw [5] (fun i wr => ∃ k : Nat, k ≤ x.wn ∧ i = .int .i64 k ∧ Hid ((∃ c vp vs vw vh up us uw uh, CpB W2.heap.size N c x.y x.sn k wr vp vs vw vh up us uw uh) ∧ Below W2.heap.size W2 wr)) (fun i _ => x.wn - (intOf i).toNat)
    case atStart =>
     obtain ⟨⟨c, vp, vs, vh, up, us, uh, cp⟩, bz⟩ := HZ.out
     exact ⟨0, Nat.zero_le _, rfl, ⟨c, vp, vs, _, vh, up, us, _, uh, cp⟩, bz⟩
    case round =>
     clear HZ hlt hk
     obtain ⟨k, hk, rfl, HZ⟩ := hrel
     by_cases hlt : k < x.wn
     ·have hlt' : (k : Int) < (x.wn : Int) := by omega
      obtain ⟨⟨c, vp, vs, vw, vh, up, us, uw, uh, cp⟩, bz⟩ := HZ.out
      obtain ⟨wa', wc', rfl⟩ := ownsRow_slice cp.o.t.row
      obtain ⟨x0, x1, x2, x3⟩ := cp.bx
      have xf := cp.fr
      have hN := cp.lt
      obtain ⟨b0, b1, b2, b3⟩ := NB.out.below bz
      obtain ⟨bq, oq, es, s0⟩ := (HG.out.below (BW.out.trans (bz.mono BW.out.size))).w.at hlt
      have hbs : bq < w.heap.size := by
       obtain ⟨bs', os', es', s0'⟩ := HG.out.w.at hlt
       rw [es] at es'
       cases es'
       exact World.block_lt_of_cell? w _ s0'
      have hsr := srcT ((HG.out.below (BW.out.trans (bz.mono BW.out.size))).wi k hlt)
      have HLk := HL.out.w.2 k hlt
      rw [es] at b2
      have CP : Hid (CpB W2.heap.size N c x.y x.sn k wr vp vs (.slice wa' k wc') vh up us uw uh) := cp
      have LSt : Hid (Src wr (x.wA k) (fT (x.wH k) (x.wL k))) := hsr
      have BZ : Hid (Below W2.heap.size W2 wr) := bz
      have hbw : bq < wr.heap.size := by have := bz.size; omega
      have hb0w : w.heap.size < wr.heap.size := by have := bz.size; omega
      have HSA : Hid (∀ j, (Value.slice wa' k wc').ownBlock = some j → W2.heap.size ≤ j ∧ j ≠ N) := fun j hj => ⟨(cp.o.t.rb j hj).1, fun e => by
       have h2 := (cp.o.t.rb j hj).2
       rw [e, cp.cN] at h2
       cases h2⟩
      clear cp bz hsr HZ es
      go_wp2_with fail
      refine wp_region_G (fun w' => w'.cell? ⟨N, 2, none⟩ = some (.slice wa' k wc') ∧ w'.cell? ⟨w.heap.size, 2, none⟩ = some (.slice (some ⟨bq, oq, none⟩) x.wn x.wc) ∧ w'.cell? ⟨bq, oq + k, none⟩ = some (.slice (x.wA k) (x.wL k) (x.wC k))) (fun i => i == 12) (by kernel_rfl) ?_
      have hHeld := And.intro x2 (And.intro b2 s0)
      refine wpGT_of [0, 1, 3, 4, 5, 6, 7] ?_
      iterate 7 (refine wpGT_take rfl hHeld ?_; apply Exists.intro; refine ⟨fun wq hSw => ?_, ?_⟩; (· ((try dsimp only at hSw); go_simp; try with_reducible rfl)); (try simp only [Act.put, List.setIfInBounds_toArray, List.set_cons_zero, List.set_cons_succ]))
      refine wpGT_nil ?_
      refine wpG_one 2 rfl (by kernel_rfl) (fun K hK => ?_)
      go_simp
      have ba : Below wr.drew.heap.size wr.drew (wr.drew.alloc (.cells #[] 75)) := below_allocL wr.drew _
      have hHeld1 : (fun w' => w'.cell? ⟨N, 2, none⟩ = some (.slice wa' k wc') ∧ w'.cell? ⟨w.heap.size, 2, none⟩ = some (.slice (some ⟨bq, oq, none⟩) x.wn x.wc) ∧ w'.cell? ⟨bq, oq + k, none⟩ = some (.slice (x.wA k) (x.wL k) (x.wC k))) (wr.drew.alloc (.cells #[] 75)) := ⟨((bcell ba).1 _ _ hN).trans x2, ((bcell ba).1 _ _ hb0w).trans b2, ((bcell ba).1 _ _ hbw).trans s0⟩
      refine hK.out _ _ (fun _ => hHeld1) ?_
      clear hHeld ba
      clear hK K
      (try simp only [Act.put, List.setIfInBounds_toArray, List.set_cons_zero, List.set_cons_succ])
      refine wpG_one 8 rfl (by kernel_rfl) (fun K hK => ?_)
      refine stepR_append_srcN kndT wr.drew rfl rfl _ _ rfl (x.wA k) (x.wL k) (x.wC k) (fT (x.wH k) (x.wL k)) rfl rfl (fT_len _ _) LSt.out (fT_one _ _) (Nat.le_trans HLk (by omega)) ?_
      intro v1 w1 o1 d1' n1
      obtain ⟨a1, c1, rfl⟩ := ownsRow_slice o1
      have q1 : Below wr.heap.size wr w1 := (Below.refl wr.heap.size wr).drew.trans d1'
      have O1 : Hid (w1.ownsRow wr.heap.size 75 2 (.slice a1 (x.wL k) c1) (x.wL k) (fT (x.wH k) (x.wL k)) ∧ Value.slice a1 (x.wL k) c1 ≠ .slice none 0 0) := ⟨o1, n1⟩
      have hc1 : ∀ b o, b < wr.heap.size → w1.cell? ⟨b, o, none⟩ = wr.cell? ⟨b, o, none⟩ := fun b o h => (bcell q1).1 b o h
      have hHeld2 := And.intro ((hc1 _ _ hN).trans x2) (And.intro ((hc1 _ _ hb0w).trans b2) ((hc1 _ _ hbw).trans s0))
      have Q1 : Hid (Below wr.heap.size wr w1) := q1
      refine hK.out _ _ (fun _ => hHeld2) ?_
      clear hHeld1 o1 d1' q1 hc1 n1
      clear hK K
      (try simp only [Act.put, List.setIfInBounds_toArray, List.set_cons_zero, List.set_cons_succ])
      refine wpG_one 9 rfl (by kernel_rfl) (fun K hK => ?_)
      go_simp
      have ba := below_allocL w1 (.cells #[.slice a1 (x.wL k) c1] 32)
      have hca : ∀ b o, b < wr.heap.size → (w1.alloc (.cells #[.slice a1 (x.wL k) c1] 32)).cell? ⟨b, o, none⟩ = w1.cell? ⟨b, o, none⟩ := fun b o h => (bcell ba).1 b o (Nat.lt_of_lt_of_le h Q1.out.size)
      obtain ⟨e0, e1, e2⟩ := hHeld2
      refine hK.out _ _ (fun _ => ⟨(hca _ _ hN).trans e0, (hca _ _ hb0w).trans e1, (hca _ _ hbw).trans e2⟩) ?_
      clear hca ba
      clear hK K
      (try simp only [Act.put, List.setIfInBounds_toArray, List.set_cons_zero, List.set_cons_succ])
      refine wpG_one 10 rfl (by kernel_rfl) (fun K hK => ?_)
      refine stepR_append_val kndTT w1 rfl rfl _ _ rfl 0 (.slice wa' k wc') k _ rfl (CP.out.o.t.below Q1.out).row #[.slice a1 (x.wL k) c1] rfl rfl (by intro u hu; simp at hu; subst hu; rfl) (by omega) (Nat.zero_le _) ?_
      intro v3 w3 o3 g3 q3 n3
      obtain ⟨a3, c3, rfl⟩ := ownsRow_slice o3
      have hk3 : ∀ b, b < wr.heap.size → (b < W2.heap.size ∨ b = N) → w3.heap[b]? = w1.heap[b]? := fun b h1 h2 => g3.block b (Nat.lt_of_lt_of_le h1 Q1.out.size) fun e => by
       have := HSA.out b e.symm
       omega
      have hc3 : ∀ b o, b < wr.heap.size → (b < W2.heap.size ∨ b = N) → w3.cell? ⟨b, o, none⟩ = w1.cell? ⟨b, o, none⟩ := fun b o h1 h2 => World.cell?_of_block (hk3 b h1 h2)
      have hHeld := And.intro ((hc3 _ _ hN (.inr rfl)).trans e0) (And.intro ((hc3 _ _ hb0w (.inl hl0)).trans e1) ((hc3 _ _ hbw (.inl (by omega))).trans e2))
      have hfN : ∀ j, w3.frozen? ⟨N, j, none⟩ = false := fun j => (World.frozen?_of_block (hk3 N hN (.inr rfl))).trans (((bcell Q1.out).2 N j hN).trans (xf j))
      have CN : Hid (CpB W2.heap.size N (rcol c wr.heap.size 3) x.y x.sn (k + 1) (w3.setCell ⟨N, 2, none⟩ (.slice a3 (k + 1) c3)) vp vs (.slice a3 (k + 1) c3) vh up us (fun j => if j = k then .slice a1 (x.wL k) c1 else uw j) uh) := CP.out.way Q1.out O1.out.1 O1.out.2 o3 g3 q3
      have BN : Hid (Below W2.heap.size W2 (w3.setCell ⟨N, 2, none⟩ (.slice a3 (k + 1) c3))) := (Below.grown (BZ.out.trans (Q1.out.mono BZ.out.size)) g3 (Nat.le_trans BZ.out.size Q1.out.size) (fun j hj => (HSA.out j hj).1)).setCell CP.out.bN _
      refine hK.out _ _ (fun _ => hHeld) ?_
      clear o3 g3 q3 n3 hk3 hc3
      clear hK K
      (try simp only [Act.put, List.setIfInBounds_toArray, List.set_cons_zero, List.set_cons_succ])
      refine wpG_take 11 rfl hHeld ?_
      apply Exists.intro
      refine ⟨fun wq hSw => ?_, ?_⟩
      ·(try dsimp only at hSw)
       go_simp
       try with_reducible rfl
      (try simp only [Act.put, List.setIfInBounds_toArray, List.set_cons_zero, List.set_cons_succ])
      refine wpG_one 12 rfl (by kernel_rfl) (fun K hK => ?_)
      have hcN := hHeld.1
      have hfN1 := hfN 2
      go_simp
      refine hK.out _ _ (fun h => ?_) ?_
      ·exact absurd h (by decide)
      clear hK K
      (try simp only [Act.put])
      refine wpG_done (by kernel_rfl) ?_ _
      go_wp2
      go_roundw
      case rel => exact ⟨k + 1, by omega, by go_num, ⟨_, _, _, _, _, _, _, _, _, CN.out⟩, BN.out⟩
      case measure => simp [intOf]; omega
     ·have hkn : k = x.wn := by omega
      subst hkn
      obtain ⟨⟨c, vp, vs, vw, vh, up, us, uw, uh, cp⟩, bz⟩ := HZ.out
      obtain ⟨pa', pc', rfl⟩ := ownsRow_slice cp.o.p.row
      obtain ⟨sa', sc', rfl⟩ := ownsRow_slice cp.o.s.row
      obtain ⟨wa', wc', rfl⟩ := ownsRow_slice cp.o.t.row
      obtain ⟨ha', hc', rfl⟩ := ownsRow_slice cp.o.h.row
      obtain ⟨x0, x1, x2, x3⟩ := cp.bx
      replace x0 : wr.cell? ⟨N, 0, none⟩ = some (.slice pa' x.pn pc') := x0
      replace x3 : wr.cell? ⟨N, 3, none⟩ = some (.slice ha' x.hn hc') := x3
      obtain ⟨r0, r1, r2, r3⟩ := RB.out.1.below bz
      obtain ⟨-, -, b2, -⟩ := NB.out.below bz
      have rf : ∀ j, wr.frozen? ⟨w.heap.size + 1, j, none⟩ = false := fun j => ((bcell bz).2 _ _ hl1).trans (RB.out.2 j)
      have HO : Hid (OwnS true wr W2.heap.size c x.y (.slice pa' x.pn pc') (.slice sa' x.sn sc') (.slice wa' x.wn wc') (.slice ha' x.hn hc') up us uw uh) := cp.o
      have BE : Hid (Below w.heap.size w wr) := BW.out.trans (bz.mono BW.out.size)
      have HO2 : Hid (∀ W9 : World, (∀ k, w.heap.size + 1 < k → W9.heap[k]? = wr.heap[k]?) → OwnSys true W9 w.heap.size x.y (sysV pa' x.pn pc' sa' x.sn sc' wa' x.wn wc' ha' x.hn hc')) := fun W9 hk9 => by
       have hm : ∀ i k, Cl W2.heap.size c i k → k < wr.heap.size → Cl w.heap.size c i k := fun i k h _ => ⟨by have := h.1; omega, h.2⟩
       have hq : ∀ i k, Cl W2.heap.size c i k → k < wr.heap.size → W9.heap[k]? = wr.heap[k]? := fun i k h _ => hk9 k (by have := h.1; omega)
       have hm9 : ∀ i k, Cl W2.heap.size c i k → k < W9.heap.size → Cl w.heap.size c i k := fun i k h _ => ⟨by have := h.1; omega, h.2⟩
       exact ⟨c, _, _, _, _, up, us, uw, uh, rfl, ⟨(HO.out.p.keep (hq 1)).mono (hm9 1), (HO.out.s.keep (hq 2)).mono (hm9 2), (HO.out.t.keep (hq 3)).mono (hm9 3), (HO.out.h.keep (hq 4)).mono (hm9 4)⟩⟩
      clear HZ cp bz HO RB NB HG
      go_wp2
      refine bodyPost_ret (v := sysV pa' x.pn pc' sa' x.sn sc' wa' x.wn wc' ha' x.hn hc') (by simp [results, Tryz.results75, go_sem, r0, r1, r2, r3]) rfl ⟨_, rfl, HO2.out _ ?_, ?_⟩
      ·intro k hk
       repeat (rw [Below.heap_setCell _ _ _ _ (by simp; omega)])
      ·have := BE.out
       go_grown
structure EvK (w : World) (N : Nat) (k q v : Int) : Prop where
 c0 : w.cell? ⟨N, 0, none⟩ = some (.int .i64 k)
 c1 : w.cell? ⟨N, 1, none⟩ = some (.int .i64 q)
 c2 : w.cell? ⟨N, 2, none⟩ = some (.int .i64 v)
 fr : ∀ j, w.frozen? ⟨N, j, none⟩ = false
theorem EvK.below {w w' : World} {N : Nat} {k q v : Int} (h : EvK w N k q v) (hb : Below w.heap.size w w') : EvK w' N k q v := by
 have hN := hb.block N (World.block_lt_of_cell? w _ h.c0)
 exact ⟨(World.cell?_of_block hN).trans h.c0, (World.cell?_of_block hN).trans h.c1, (World.cell?_of_block hN).trans h.c2, fun j => (World.frozen?_of_block hN).trans (h.fr j)⟩
theorem EvK.new (w : World) (k q v : Int) (t : TypeId) : EvK (w.alloc (.cells #[.int .i64 k, .int .i64 q, .int .i64 v] t)) w.heap.size k q v :=
 ⟨new_cell _ _ _ 0 (by simp), new_cell _ _ _ 1 (by simp), new_cell _ _ _ 2 (by simp), fun j => new_frozen _ _ _ _ (by simp)⟩
theorem EvK.put {w : World} {N : Nat} {k q v : Int} (h : EvK w N k q v) (k' q' v' : Int) : EvK (((w.setCell ⟨N, 0, none⟩ (.int .i64 k')).setCell ⟨N, 1, none⟩ (.int .i64 q')).setCell ⟨N, 2, none⟩ (.int .i64 v')) N k' q' v' := by
 obtain ⟨h0, h1, h2, hf⟩ := h
 exact ⟨by go_cell, by go_cell, by go_cell, fun j => by simpa using hf j⟩
def Sy.nk (y : Sy) (p : Nat) : Int := nxK (y.pH p) (y.pL p) (y.sS p).p (y.sS p).rs (y.sS p).os (y.sS p).c
def Sy.nq (y : Sy) (p : Nat) : Int := nxP (y.pH p) (y.pL p) (y.sS p).p (y.sS p).rs (y.sS p).os (y.sS p).c
def Sy.nv (y : Sy) (p : Nat) : Int := nxW (y.pH p) (y.pL p) (y.sS p).p (y.sS p).rs (y.sS p).os (y.sS p).c
def tkS (y : Sy) (p : Nat) (f : Int) : Int := if belB f y.pn = true then (if y.wL (f.toNat * y.pn + p) = 0 then 3 else if (y.wH (f.toNat * y.pn + p) 0).m = true then 5 else 0) else 2
def fuS (y : Sy) (p : Nat) (k q : Int) : Bool := decide (200 ≤ y.hL p) || (k == 2 && decide (12 ≤ y.wL (p * y.pn + q.toNat)))
def cmS (y : Sy) (p : Nat) (f : Int) : Int := if (y.sS p).c ≠ 0 then 6 else if fuS y p (y.nk p) (y.nq p) = true then 4 else if y.nk p = 3 then tkS y p (if y.nq p = 9 then f else y.nq p) else 0
theorem rp_okS {g : Nat → I5} {n : Nat} {eh : Nat → E3} (hp : progOkB g n 4 = true) : ∀ k S, rp g n eh k = some S → OkS n S
 | 0, S, h => by
  simp only [rp, Option.some.injEq] at h
  subst h
  exact newS_ok hp
 | k + 1, S, h => by
  simp only [rp] at h
  cases hr : rp g n eh k with
  | none => rw [hr] at h; cases h
  | some S0 =>
   rw [hr] at h
   simp only [Option.bind_some, rpStep] at h
   split at h
   ·rename_i hd
    simp only [Option.some.injEq] at h
    subst h
    exact doS_ok hd
   ·cases h
theorem Sy.Ok.four {y : Sy} (h : y.Ok) {p : Nat} (hp : p < y.pn) : progOkB (y.pH p) (y.pL p) 4 = true := (repO_some (h.rp p hp)).1
theorem Sy.Ok.le200 {y : Sy} (h : y.Ok) {p : Nat} (hp : p < y.pn) : y.hL p ≤ 200 := (repO_some (h.rp p hp)).2.1
theorem Sy.Ok.st {y : Sy} (h : y.Ok) {p : Nat} (hp : p < y.pn) : OkS (y.pL p) (y.sS p) := rp_okS (h.four hp) _ _ (repO_some (h.rp p hp)).2.2
theorem Sy.Ok.right {y : Sy} (h : y.Ok) {p : Nat} (hp : p < y.pn) (hc : (y.sS p).c = 0) : rightB (y.pH p) (y.pL p) (y.sS p).p (y.sS p).rs (y.sS p).os 0 = true := by
 have := right_of (h.four hp) (h.st hp) hc
 rwa [hc] at this
theorem Sy.Ok.peer {y : Sy} (h : y.Ok) {p : Nat} (hp : p < y.pn) (hk : y.nk p = 2) : 0 ≤ y.nq p ∧ y.nq p < y.pn := by
 unfold Sy.nk nxK at hk
 unfold Sy.nq nxP
 by_cases hr : rightB (y.pH p) (y.pL p) (y.sS p).p (y.sS p).rs (y.sS p).os (y.sS p).c = true
 ·rw [if_pos hr] at hk ⊢
  obtain ⟨-, h4, -⟩ := right_parts hr
  obtain ⟨-, ⟨k, ek, hkl⟩, -⟩ := st_parts h4
  have e : (y.sS p).p.toNat = k := by omega
  rw [e] at hk ⊢
  have h5 := right_ins (h.pr p hp) hkl
  simp only [insOkB, Bool.and_eq_true] at h5
  have h6 := h5.2
  have e6 : (y.pH p k).o = 6 := by
   unfold evK at hk
   by_cases e6 : (y.pH p k).o = 6
   ·exact e6
   ·rw [if_neg e6] at hk
    split at hk
    ·cases hk
    ·split at hk <;> cases hk
  rw [evP, if_pos e6]
  simp [opOkB, e6, inB] at h6
  omega
 ·rw [if_neg hr] at hk
  cases hk
theorem Sy.Ok.way {y : Sy} (h : y.Ok) {a b : Nat} (ha : a < y.pn) (hb : b < y.pn) : y.wL (a * y.pn + b) ≤ 12 := (h.wa a ha b hb).le
theorem way_lt {a b n : Nat} (ha : a < n) (hb : b < n) : a * n + b < n * n := by
 have := Nat.mul_le_mul_right n (show a + 1 ≤ n by omega)
 rw [Nat.add_mul, Nat.one_mul] at this
 omega
variable {z : Bool}
def Sy.setW (y : Sy) (i m : Nat) (H : Nat → I2) : Sy := { y with wL := fun j => if j = i then m else y.wL j, wH := fun j => if j = i then H else y.wH j }
def Sy.setH (y : Sy) (i m : Nat) (H : Nat → E3) : Sy := { y with hL := fun j => if j = i then m else y.hL j, hH := fun j => if j = i then H else y.hH j }
def Sy.setS (y : Sy) (i : Nat) (T : S4) : Sy := { y with sS := fun j => if j = i then T else y.sS j }
theorem OwnS.putW {w w1 : World} {B : Nat} {c : Nat → Nat} {y : Sy} {vp vs vh : Value} {g cap : Nat} {up us uw uh : Nat → Value} (o : OwnS z w B c y vp vs (.slice (some ⟨g, 0, none⟩) y.wn cap) vh up us uw uh) {i : Nat} (hi : i < y.wn) {u' : Value} {m : Nat} {H' : Nat → I2} (hB : B ≤ w.heap.size) (hs : w.heap.size ≤ w1.heap.size) (g1 : ∀ k, k < w.heap.size → (uw i).ownBlock ≠ some k → w1.heap[k]? = w.heap[k]?)
  (hu : w1.ownsRow 0 75 2 u' m (fT H' m)) (hne : u' ≠ .slice none 0 0) (hb : ∀ k, u'.ownBlock = some k → (uw i).ownBlock = some k ∨ w.heap.size ≤ k) :
  OwnS z (w1.setCell ⟨g, i, none⟩ u') B (rcol c w.heap.size 3) (y.setW i m H') vp vs (.slice (some ⟨g, 0, none⟩) y.wn cap) vh up us (fun j => if j = i then u' else uw j) uh := by
 have hP : ∀ q k, Cl B c q k → k < w.heap.size → Cl B (rcol c w.heap.size 3) q k := fun q k h hl => h.old hl
 have hg : Cl B c 3 g := o.t.rb g rfl
 have hgl : g < w.heap.size := (o.t.row.lt g rfl).2
 have hk : ∀ q, q ≠ 3 → ∀ k, Cl B (rcol c w.heap.size 3) q k → k < w.heap.size → (w1.setCell ⟨g, i, none⟩ u').heap[k]? = w.heap[k]? := fun q hq k h hl => by
  have e : c k = q := (rcol_old hl).symm.trans h.2
  refine (Below.heap_setCell _ _ _ _ fun ek => hq ?_).trans (g1 k hl fun ek => hq ?_)
  ·rw [← e, ek]; exact hg.2
  ·rw [← e]; exact (o.t.ob i hi k ek).2
 refine ⟨(o.p.mono (hP 1)).keep (hk 1 (by decide)), (o.s.mono (hP 2)).keep (hk 2 (by decide)), ?_, (o.h.mono (hP 4)).keep (hk 4 (by decide))⟩
 have h := LL.put o.t hi hs g1 hu (fun _ => hne) hb (P' := Cl B (rcol c w.heap.size 3) 3) (hP 3) fun k h _ => ⟨Nat.le_trans hB h, rcol_new h⟩
 have e : (fun j => if j = i then fT H' m else fT (y.wH j) (y.wL j)) = fun j => fT ((y.setW i m H').wH j) ((y.setW i m H').wL j) := funext fun j => by
  by_cases q : j = i
  ·simp [Sy.setW, q]
  ·simp [Sy.setW, q]
 rw [e] at h
 exact h
theorem OwnS.putH {w w1 : World} {B : Nat} {c : Nat → Nat} {y : Sy} {vp vs vw : Value} {g cap : Nat} {up us uw uh : Nat → Value} (o : OwnS z w B c y vp vs vw (.slice (some ⟨g, 0, none⟩) y.hn cap) up us uw uh) {i : Nat} (hi : i < y.hn) {u' : Value} {m : Nat} {H' : Nat → E3} (hB : B ≤ w.heap.size) (hs : w.heap.size ≤ w1.heap.size) (g1 : ∀ k, k < w.heap.size → (uh i).ownBlock ≠ some k → w1.heap[k]? = w.heap[k]?)
  (hu : w1.ownsRow 0 91 3 u' m (fE H' m)) (hne : u' ≠ .slice none 0 0) (hb : ∀ k, u'.ownBlock = some k → (uh i).ownBlock = some k ∨ w.heap.size ≤ k) :
  OwnS z (w1.setCell ⟨g, i, none⟩ u') B (rcol c w.heap.size 4) (y.setH i m H') vp vs vw (.slice (some ⟨g, 0, none⟩) y.hn cap) up us uw (fun j => if j = i then u' else uh j) := by
 have hP : ∀ q k, Cl B c q k → k < w.heap.size → Cl B (rcol c w.heap.size 4) q k := fun q k h hl => h.old hl
 have hg : Cl B c 4 g := o.h.rb g rfl
 have hgl : g < w.heap.size := (o.h.row.lt g rfl).2
 have hk : ∀ q, q ≠ 4 → ∀ k, Cl B (rcol c w.heap.size 4) q k → k < w.heap.size → (w1.setCell ⟨g, i, none⟩ u').heap[k]? = w.heap[k]? := fun q hq k h hl => by
  have e : c k = q := (rcol_old hl).symm.trans h.2
  refine (Below.heap_setCell _ _ _ _ fun ek => hq ?_).trans (g1 k hl fun ek => hq ?_)
  ·rw [← e, ek]; exact hg.2
  ·rw [← e]; exact (o.h.ob i hi k ek).2
 refine ⟨(o.p.mono (hP 1)).keep (hk 1 (by decide)), (o.s.mono (hP 2)).keep (hk 2 (by decide)), (o.t.mono (hP 3)).keep (hk 3 (by decide)), ?_⟩
 have h := LL.put o.h hi hs g1 hu (fun _ => hne) hb (P' := Cl B (rcol c w.heap.size 4) 4) (hP 4) fun k h _ => ⟨Nat.le_trans hB h, rcol_new h⟩
 have e : (fun j => if j = i then fE H' m else fE (y.hH j) (y.hL j)) = fun j => fE ((y.setH i m H').hH j) ((y.setH i m H').hL j) := funext fun j => by
  by_cases q : j = i
  ·simp [Sy.setH, q]
  ·simp [Sy.setH, q]
 rw [e] at h
 exact h
theorem OwnS.putS {w w1 : World} {B : Nat} {c : Nat → Nat} {y : Sy} {vp vw vh : Value} {g cap : Nat} {up us uw uh : Nat → Value} (o : OwnS z w B c y vp (.slice (some ⟨g, 0, none⟩) y.sn cap) vw vh up us uw uh) {i : Nat} (hi : i < y.sn) {ra oa : Option Addr} {rn rc on oc : Nat} {p code : Int} {T : S4} (hB : B ≤ w.heap.size) (b1 : Below w.heap.size w w1) (hu : StOwn w1 w.heap.size (stV p ra rn rc oa on oc code) T.p T.rs T.os T.c) :
  OwnS z ((((w1.setCell ⟨g, i * 4, none⟩ (.int .i64 p)).setCell ⟨g, i * 4 + 1, none⟩ (.slice ra rn rc)).setCell ⟨g, i * 4 + 2, none⟩ (.slice oa on oc)).setCell ⟨g, i * 4 + 3, none⟩ (.int .i64 code)) B (rcol c w.heap.size 2) (y.setS i T) vp (.slice (some ⟨g, 0, none⟩) y.sn cap) vw vh up (fun j => if j = i then stV p ra rn rc oa on oc code else us j) uw uh := by
 have hP : ∀ q k, Cl B c q k → k < w.heap.size → Cl B (rcol c w.heap.size 2) q k := fun q k h hl => h.old hl
 have hg : Cl B c 2 g := o.s.rb g rfl
 have hk : ∀ q, q ≠ 2 → ∀ k, Cl B (rcol c w.heap.size 2) q k → k < w.heap.size → ((((w1.setCell ⟨g, i * 4, none⟩ (.int .i64 p)).setCell ⟨g, i * 4 + 1, none⟩ (.slice ra rn rc)).setCell ⟨g, i * 4 + 2, none⟩ (.slice oa on oc)).setCell ⟨g, i * 4 + 3, none⟩ (.int .i64 code)).heap[k]? = w.heap[k]? := fun q hq k h hl => by
  have e : c k = q := (rcol_old hl).symm.trans h.2
  have hne : k ≠ g := fun ek => hq (by rw [← e, ek]; exact hg.2)
  exact ((Below.heap_setCell _ _ _ _ hne).trans ((Below.heap_setCell _ _ _ _ hne).trans ((Below.heap_setCell _ _ _ _ hne).trans (Below.heap_setCell _ _ _ _ hne)))).trans (b1.block k hl)
 exact ⟨(o.p.mono (hP 1)).keep (hk 1 (by decide)), LS.put o.s hi b1 hu (hP 2) fun k h _ => ⟨Nat.le_trans hB h, rcol_new h⟩, (o.t.mono (hP 3)).keep (hk 3 (by decide)), (o.h.mono (hP 4)).keep (hk 4 (by decide))⟩
def Sy.way (y : Sy) (p : Nat) (k q v : Int) : Sy :=
 { y with
  wL := if k = 2 then fun j => if j = p * y.pn + q.toNat then y.wL (p * y.pn + q.toNat) + 1 else y.wL j
   else if k = 3 then fun j => if j = q.toNat * y.pn + p then y.wL (q.toNat * y.pn + p) - 1 else y.wL j else y.wL
  wH := if k = 2 then fun j => if j = p * y.pn + q.toNat then (fun i => if i = y.wL (p * y.pn + q.toNat) then ⟨false, v⟩ else y.wH (p * y.pn + q.toNat) i) else y.wH j
   else if k = 3 then fun j => if j = q.toNat * y.pn + p then (fun i => y.wH (q.toNat * y.pn + p) (i + 1)) else y.wH j else y.wH }
theorem Sy.way_send (y : Sy) (p q : Nat) (v : Int) : y.way p 2 q v = y.setW (p * y.pn + q) (y.wL (p * y.pn + q) + 1) (fun i => if i = y.wL (p * y.pn + q) then ⟨false, v⟩ else y.wH (p * y.pn + q) i) := by
 simp [Sy.way, Sy.setW]
theorem Sy.way_take (y : Sy) (p q : Nat) (v : Int) : y.way p 3 q v = y.setW (q * y.pn + p) (y.wL (q * y.pn + p) - 1) (fun i => y.wH (q * y.pn + p) (i + 1)) := by
 simp [Sy.way, Sy.setW]
theorem Sy.way_no (y : Sy) (p : Nat) {k : Int} (h2 : k ≠ 2) (h3 : k ≠ 3) (q v : Int) : y.way p k q v = y := by
 simp [Sy.way, h2, h3]
theorem fT_push (H : Nat → I2) (x : I2) (n : Nat) : fT (fun i => if i = n then x else H i) (n + 1) = fT H n ++ cT x := by
 show flat (fun i => cT (if i = n then x else H i)) n ++ cT (if n = n then x else H n) = flat (fun i => cT (H i)) n ++ cT x
 rw [if_pos rfl]
 congr 1
 exact flat_congr fun i hi => by rw [if_neg (by omega)]
theorem fE_push (H : Nat → E3) (x : E3) (n : Nat) : fE (fun i => if i = n then x else H i) (n + 1) = fE H n ++ cE x := by
 show flat (fun i => cE (if i = n then x else H i)) n ++ cE (if n = n then x else H n) = flat (fun i => cE (H i)) n ++ cE x
 rw [if_pos rfl]
 congr 1
 exact flat_congr fun i hi => by rw [if_neg (by omega)]
def Sy.evt (y : Sy) (p : Nat) (k q v : Int) : Sy :=
 (y.setS p (doS (y.pH p) (y.pL p) (y.sS p).p (y.sS p).rs (y.sS p).os (y.sS p).c k q v)).setH p (y.hL p + 1) (fun i => if i = y.hL p then ⟨k, q, v⟩ else y.hH p i)
def Sy.eq (y : Sy) (p : Nat) (f : Int) : Int := if y.nk p = 3 then (if y.nq p = 9 then f else y.nq p) else y.nq p
def Sy.ev (y : Sy) (p : Nat) (f : Int) : Int := if y.nk p = 3 then (y.wH ((y.eq p f).toNat * y.pn + p) 0).v else y.nv p
def Sy.step (y : Sy) (p : Nat) (f : Int) : Sy := if cmS y p f = 0 then (y.way p (y.nk p) (y.eq p f) (y.ev p f)).evt p (y.nk p) (y.eq p f) (y.ev p f) else y
theorem Sy.step_no {y : Sy} {p : Nat} {f : Int} (h : cmS y p f ≠ 0) : y.step p f = y := if_neg h
theorem valL_length (eh : Nat → E3) (kd pr : Int) (n : Nat) : (valL eh kd pr n).length = (plN eh kd pr n).length := by simp [valL]
theorem plI_length (eh : Nat → E3) (kd pr : Int) (n : Nat) : (plI eh kd pr n).length = (plN eh kd pr n).length := by simp [plI]
def nthV (eh : Nat → E3) (kd pr : Int) (len : Nat) (n : Int) : Int := if belB n ((plI eh kd pr len).length : Nat) = true then zi (plI eh kd pr len) n.toNat else -1
theorem plN_mem (eh : Nat → E3) (kd pr : Int) : ∀ n, ∀ q ∈ plN eh kd pr n, q < n
 | 0, q, h => by simp [plN] at h
 | n + 1, q, h => by
  unfold plN at h
  split at h
  ·simp at h
   rcases h with h | h
   ·have := plN_mem eh kd pr n q h
    omega
   ·omega
  ·have := plN_mem eh kd pr n q h
   omega
theorem plI_place (eh : Nat → E3) (kd pr : Int) (len j : Nat) (hj : j < (plI eh kd pr len).length) : ∃ q : Nat, zi (plI eh kd pr len) j = (q : Int) ∧ q < len ∧ (plN eh kd pr len)[j]? = some q := by
 have hj' : j < (plN eh kd pr len).length := by rw [plI_length] at hj; exact hj
 refine ⟨(plN eh kd pr len)[j], ?_, plN_mem eh kd pr len _ (List.getElem_mem hj'), List.getElem?_eq_getElem hj'⟩
 unfold zi plI
 rw [List.getD_eq_getElem?_getD, List.getElem?_map, List.getElem?_eq_getElem hj']
 rfl
theorem append_far {ops : Array Oper} {rest : List Oper} {op : Oper} {act : Act} {Q : Exit → Act → World → Prop} (w : World) (hgd : op.guard = none) (s x : Operand)
  (ho : op.op = .call { callee := .builtin .append, args := #[s, x], argTypes := #[37, 37] })
  (B : Nat) (v : Value) (xs : List Int) (hs : act.eval s = v) (hv : OwnI w B v xs) (y : Int) (hx : act.eval x = .slice (some ⟨w.heap.size, 0, none⟩) 1 1) (hn : xs.length ≤ 1048576) (hB : B ≤ w.heap.size)
  (h : ∀ v' w', OwnI w' B v' (xs ++ [y]) → w.grownBy w' v.ownBlock → (∀ j, v'.ownBlock = some j → v.ownBlock = some j ∨ w.heap.size ≤ j) → wpList Tryz.prog ops Q rest (act.put op.dst v') w') :
  wpList Tryz.prog ops Q (op :: rest) act (w.alloc (.cells #[.int .i64 y] 3)) := by
 have hb : Below w.heap.size w (w.alloc (.cells #[.int .i64 y] 3)) := (Below.refl _ _).alloc (Nat.le_refl _) _
 refine wpList_append_ints _ hgd s x ho B 1 v (some ⟨w.heap.size, 0, none⟩) xs [y] hs hx (hv.below hb) (.inr ⟨w.heap.size, 0, rfl, by simp, fun i hi => ?_⟩) (by simp; omega) (by simp; omega) ?_
 ·have : i = 0 := by simp at hi; omega
  subst this
  exact new_cell _ _ _ 0 rfl
 ·intro v' w' o g a
  refine h v' w' o ⟨g.os, g.tape, g.output, Nat.le_trans hb.size g.size, fun k hk hne => (g.block k (Nat.lt_of_lt_of_le hk hb.size) hne).trans (hb.block k hk)⟩ fun j hj => ?_
  rcases a with a | a
  ·exact .inl (a.symm.trans hj)
  ·rw [hj] at a
   simp only [Option.some.injEq] at a
   right
   rw [a]
   simp
def Away (w w1 wr : World) (o : Value) : Prop := (∀ j, o.ownBlock = some j → j = w.heap.size ∨ w1.heap.size ≤ j) ∧ (∀ j, w.heap.size < j → j < w1.heap.size → wr.heap[j]? = w1.heap[j]?) ∧ w1.heap.size ≤ wr.heap.size
theorem Away.step {w w1 wr w4 : World} {o v' : Value} (h : Away w w1 wr o) (g : wr.grownBy w4 o.ownBlock) (a : ∀ j, v'.ownBlock = some j → o.ownBlock = some j ∨ wr.heap.size ≤ j) : Away w w1 w4 v' := by
 obtain ⟨h1, h2, h3⟩ := h
 refine ⟨fun j hj => ?_, fun j p1 p2 => ?_, Nat.le_trans h3 g.size⟩
 ·rcases a j hj with a | a
  ·exact h1 j a
  ·right; omega
 ·rw [g.block j (by omega) (fun e => ?_), h2 j p1 p2]
  rcases h1 j e.symm with e | e <;> omega
theorem Away.sl {w w1 wr : World} {o : Value} (h : Away w w1 wr o) {B cp : Nat} {a0 : Option Addr} {xs : List Int} (hB : w.heap.size < B) (hO : OwnI w1 B (.slice a0 xs.length cp) xs) : Sl wr a0 xs := by
 by_cases hx : 0 < xs.length
 ·obtain ⟨g, cap, e, hg, hl⟩ := hO.block hx
  simp only [Value.slice.injEq] at e
  obtain ⟨rfl, -, rfl⟩ := e
  refine .inr ⟨g, 0, rfl, Nat.lt_of_lt_of_le hl h.2.2, fun i hi => ?_⟩
  rw [Nat.zero_add, World.cell?_of_block (h.2.1 g (by omega) hl)]
  exact hO.cell hi
 ·exact .inl (List.eq_nil_of_length_eq_zero (by omega))
def valT (eh : Nat → E3) (kd pr : Int) (len j : Nat) : List Int := ((plN eh kd pr len).take j).map fun i => (eh i).v
theorem valT_le (eh : Nat → E3) (kd pr : Int) (len j : Nat) : (valT eh kd pr len j).length ≤ j := by simp [valT]; omega
theorem valT_all (eh : Nat → E3) (kd pr : Int) (len : Nat) : valT eh kd pr len (plI eh kd pr len).length = valL eh kd pr len := by
 unfold valT valL
 rw [plI_length, List.take_length]
theorem valT_next {eh : Nat → E3} {kd pr : Int} {len j q : Nat} (h : (plN eh kd pr len)[j]? = some q) : valT eh kd pr len (j + 1) = valT eh kd pr len j ++ [(eh q).v] := by
 unfold valT
 rw [List.take_add_one, h, List.map_append]
 rfl
open Go.Sort
theorem Touch.set {P : Nat → Prop} {w w' : World} (h : Touch P w w') {a : Addr} (ha : P a.block) (u : Value) : Touch P w (w'.setCell a u) := h.trans (Touch.of_set w' ha u)
theorem Touch.sets {P : Nat → Prop} {b : Nat} (hb : P b) : ∀ (vs : List Value) (o : Nat) {w w' : World}, Touch P w w' → Touch P w (w'.setCells b o vs)
 | [], _, _, _, h => h
 | v :: r, o, _, _, h => Touch.sets hb r (o + 1) (h.set (a := ⟨b, o, none⟩) hb v)
theorem infoHis : (Tryz.prog.info? 80).map (·.size) = some 21 := by kernel_rfl
theorem rowBack (X Bf Hb : Nat) (w : World) (cs : List Value) (hl : cs.length = 21) (h1 : ∀ v ∈ cs, v.oneCell' = true) (hB : w.rangeAt Bf 0 cs) (hT : w.there X 4 21) (hH : w.cell? ⟨Hb, 0, none⟩ = some (.pointer (some ⟨X, 4, none⟩))) (u : FrameMode) :
  CallsD Tryz.prog 117 #[.pointer (some ⟨Bf, 0, none⟩), .pointer (some ⟨Hb, 0, none⟩)] u w fun e u' w' => u' = u ∧ (e = .returned (.tuple #[]) ∧ Touch (fun b => b = X) w w') := by
 have HB : Hid (w.rangeAt Bf 0 cs) := hB
 have HT : Hid (w.there X 4 cs.toArray.size) := by rw [show cs.toArray.size = 21 by simp [hl]]; exact hT
 have HI : Hid ((Tryz.prog.info? 80).map (·.size) = some cs.length) := by rw [hl]; exact infoHis
 have HO : Hid (cs.toArray.all (·.oneCell') = true) := all_oneCell_toArray h1
 clear hB hT h1 hl
 go_enter_d Tryz.func117, Tryz.ntmps117
 go_wp2_with (first | (refine wpList_load_mid rfl 80 (.tmp 0) rfl Bf 0 rfl cs _ HB.out Tryz.underlying80 rfl HI.out ?_) | (refine wpList_store_mid rfl 80 (.tmp 4) (.tmp 3) rfl X 4 cs.toArray rfl rfl HT.out (by simpa using HI.out) HO.out ?_))
 go_end0
 exact ⟨rfl, Touch.sets (P := fun b => b = X) rfl _ _ (Touch.refl _ _)⟩
def hisL (ha : Option Addr) (hc : Nat) (y : Hs) (d : Nat → Nat) : List Value :=
 [.slice ha y.n hc, .int .i64 (d 0), .int .i64 (d 1), .int .i64 (d 2), .int .i64 (d 3),
  .int .i64 (y.opn d 0 0), .int .i64 (y.opn d 0 1), .int .i64 (y.opn d 0 2), .int .i64 (y.opn d 0 3), .int .i64 (y.opn d 1 0), .int .i64 (y.opn d 1 1), .int .i64 (y.opn d 1 2), .int .i64 (y.opn d 1 3),
  .int .i64 (y.opn d 2 0), .int .i64 (y.opn d 2 1), .int .i64 (y.opn d 2 2), .int .i64 (y.opn d 2 3), .int .i64 (y.opn d 3 0), .int .i64 (y.opn d 3 1), .int .i64 (y.opn d 3 2), .int .i64 (y.opn d 3 3)]
theorem HisP.range {w : World} {X : Nat} {ha : Option Addr} {hc : Nat} {y : Hs} {d : Nat → Nat} (h : HisP w X ha hc y d) : w.rangeAt X 4 (hisL ha hc y d) := by
 intro j v hj
 have hl : j < 21 := by
  have := (List.getElem?_eq_some_iff.1 hj).1
  simpa [hisL] using this
 match j, hl, hj with
 | 0, _, hj => rw [← hj]; exact h.c4
 | 1, _, hj => rw [← hj]; exact h.pt 0 (by omega)
 | 2, _, hj => rw [← hj]; exact h.pt 1 (by omega)
 | 3, _, hj => rw [← hj]; exact h.pt 2 (by omega)
 | 4, _, hj => rw [← hj]; exact h.pt 3 (by omega)
 | 5, _, hj => rw [← hj]; exact h.op 0 0 (by omega) (by omega)
 | 6, _, hj => rw [← hj]; exact h.op 0 1 (by omega) (by omega)
 | 7, _, hj => rw [← hj]; exact h.op 0 2 (by omega) (by omega)
 | 8, _, hj => rw [← hj]; exact h.op 0 3 (by omega) (by omega)
 | 9, _, hj => rw [← hj]; exact h.op 1 0 (by omega) (by omega)
 | 10, _, hj => rw [← hj]; exact h.op 1 1 (by omega) (by omega)
 | 11, _, hj => rw [← hj]; exact h.op 1 2 (by omega) (by omega)
 | 12, _, hj => rw [← hj]; exact h.op 1 3 (by omega) (by omega)
 | 13, _, hj => rw [← hj]; exact h.op 2 0 (by omega) (by omega)
 | 14, _, hj => rw [← hj]; exact h.op 2 1 (by omega) (by omega)
 | 15, _, hj => rw [← hj]; exact h.op 2 2 (by omega) (by omega)
 | 16, _, hj => rw [← hj]; exact h.op 2 3 (by omega) (by omega)
 | 17, _, hj => rw [← hj]; exact h.op 3 0 (by omega) (by omega)
 | 18, _, hj => rw [← hj]; exact h.op 3 1 (by omega) (by omega)
 | 19, _, hj => rw [← hj]; exact h.op 3 2 (by omega) (by omega)
 | 20, _, hj => rw [← hj]; exact h.op 3 3 (by omega) (by omega)
theorem hisL_one {ha : Option Addr} {hc : Nat} {y : Hs} {d : Nat → Nat} : ∀ v ∈ hisL ha hc y d, v.oneCell' = true := by
 intro v hv
 simp only [hisL, List.mem_cons, List.not_mem_nil, or_false] at hv
 rcases hv with rfl | rfl | rfl | rfl | rfl | rfl | rfl | rfl | rfl | rfl | rfl | rfl | rfl | rfl | rfl | rfl | rfl | rfl | rfl | rfl | rfl <;> rfl
theorem HisP.thereX {w : World} {X : Nat} {ha : Option Addr} {hc : Nat} {y : Hs} {d : Nat → Nat} (h : HisP w X ha hc y d) : w.there X 4 21 := fun j hj => ⟨h.range.isSome j (by simpa [hisL] using hj), h.fr _⟩
theorem sumL_same {d e : Nat → Nat} : ∀ {n : Nat}, (∀ i, i < n → d i = e i) → sumL d n = sumL e n
 | 0, _ => rfl
 | n + 1, h => by
  show sumL d n + d n = sumL e n + e n
  rw [sumL_same fun i hi => h i (by omega), h n (by omega)]
theorem sumL_zero : ∀ n, sumL (fun _ => 0) n = 0
 | 0 => rfl
 | n + 1 => sumL_zero n
theorem sumL_up {d : Nat → Nat} {k : Nat} : ∀ {n : Nat}, k < n → sumL (up d k) n = sumL d n + 1
 | 0, h => by omega
 | n + 1, h => by
  show sumL (up d k) n + up d k n = sumL d n + d n + 1
  by_cases e : k = n
  ·subst e
   rw [up_same]
   have : sumL (up d k) k = sumL d k := sumL_same fun i hi => up_other (by omega)
   omega
  ·rw [sumL_up (by omega), up_other (by omega)]
   omega
theorem sumL_le {d l : Nat → Nat} (h : ∀ i, d i ≤ l i) : ∀ n, sumL d n ≤ sumL l n
 | 0 => Nat.le_refl _
 | n + 1 => by
  have := sumL_le h n
  have := h n
  show sumL d n + d n ≤ sumL l n + l n
  omega
structure Rw (w0 W wr : World) (X Bf Hb : Nat) (ha : Option Addr) (hc : Nat) (y : Hs) (cs : List Value) (d : Nat → Nat) : Prop where
 pu : y.Put d
 hp : HisP wr X ha hc y d
 be : Below w0.heap.size w0 wr
 hb : wr.cell? ⟨Hb, 0, none⟩ = some (.pointer (some ⟨X, 4, none⟩))
 bf : wr.rangeAt Bf 0 cs
theorem rangeAt_touch {P : Nat → Prop} {w w' : World} {b o : Nat} {cs : List Value} (h : w.rangeAt b o cs) (t : Touch P w w') (hb : ¬ P b) : w'.rangeAt b o cs := fun j v hv => by
 have := h j v hv
 rw [t.cell (World.block_lt_of_cell? w _ this) hb]
 exact this
theorem Rw.touch {w0 W wr w' : World} {X Bf Hb : Nat} {ha : Option Addr} {hc : Nat} {y : Hs} {cs : List Value} {d d' : Nat → Nat} (h : Rw w0 W wr X Bf Hb ha hc y cs d) (t : Touch (fun b => b = X) wr w') (hX : w0.heap.size ≤ X) (hB : Bf ≠ X) (hH : Hb ≠ X) (pu : y.Put d') (hp : HisP w' X ha hc y d') : Rw w0 W w' X Bf Hb ha hc y cs d' :=
 ⟨pu, hp, h.be.trans (t.below h.be.size fun b e => by omega), (t.cell (World.block_lt_of_cell? wr _ h.hb) hH 0).trans h.hb, rangeAt_touch h.bf t hB⟩
theorem canRow_any (X : Nat) (ha : Option Addr) (hc : Nat) (hA : Nat → Option Addr) (hC : Nat → Nat) (y : Hs) (w0 w : World) (hE : HisE w0 ha hA hC y) (hb : Below w0.heap.size w0 w) (hX : w0.heap.size ≤ X) (hP : HisP w X ha hc y (fun _ => 0)) (h4 : y.n ≤ 4) (hp : y.Peers) (hl : ∀ i, i < y.n → y.l i ≤ 200) :
  Calls Tryz.prog 60 #[.pointer (some ⟨X, 4, none⟩)] w fun e w' => e = .returned (.bool (qB y.Row)) ∧ Below w0.heap.size w0 w' := by
 have HE : Hid (HisE w0 ha hA hC y) := hE
 have HH : Hid (y.Peers ∧ (∀ i, i < y.n → y.l i ≤ 200) ∧ w0.heap.size ≤ X) := ⟨hp, hl, hX⟩
 have zX := hP.lt
 obtain ⟨cs, hcs, hlen, hone⟩ : ∃ cs, w.rangeAt X 4 cs ∧ cs.length = 21 ∧ ∀ v ∈ cs, v.oneCell' = true := ⟨_, hP.range, rfl, hisL_one⟩
 have hsz : cs.toArray.size = 21 := by simpa using hlen
 have HL21 : Hid (cs.length = 21 ∧ ∀ v ∈ cs, v.oneCell' = true) := ⟨hlen, hone⟩
 have HI : Hid ((Tryz.prog.info? 80).map (·.size) = some cs.length) := by rw [hlen]; exact infoHis
 have HR : Hid ((w.alloc (.cells #[.pointer (some ⟨X, 4, none⟩)] 129)).rangeAt X 4 cs) := World.rangeAt_alloc hcs _
 have HO : Hid (cs.toArray.all (·.oneCell') = true) := all_oneCell_toArray hone
 have hmf : ∀ (fn : Fn) (first cap : Array Value) (w : World), (Instr.makeFunc fn first cap).run Tryz.prog w = .ok (.func fn first cap) w := fun _ _ _ _ => rfl
 have HT : Hid (((w.alloc (.cells #[.pointer (some ⟨X, 4, none⟩)] 129)).alloc (zQ4)).there (w.heap.size + 1) 0 cs.toArray.size) := fun j hj => by
  have hj' : j < 21 := by rw [← hsz]; exact hj
  refine ⟨?_, new_frozen _ _ _ _ (by simp)⟩
  rw [Nat.zero_add, new_cell _ _ _ j (by simp), Array.getElem?_eq_getElem (by simpa using hj')]
  rfl
 have tw : Touch (fun b => b = w.heap.size + 1) w (((w.alloc (.cells #[.pointer (some ⟨X, 4, none⟩)] 129)).alloc (zQ4)).setCells (w.heap.size + 1) 0 cs) := Touch.sets (P := fun b => b = w.heap.size + 1) rfl _ _ (Touch.of_below ((below_alloc _ _).trans ((below_alloc _ _).mono (by simp))))
 have HRw : Hid (Rw w0 w (((w.alloc (.cells #[.pointer (some ⟨X, 4, none⟩)] 129)).alloc (zQ4)).setCells (w.heap.size + 1) 0 cs) X (w.heap.size + 1) w.heap.size ha hc y cs (fun _ => 0)) := by
  refine ⟨.start, hP.blk (tw.block X zX (by omega)), hb.trans (tw.below hb.size fun b e => by have := hb.size; omega), ?_, World.rangeAt_setCells_same _ _ _ _ (by simpa using HT.out)⟩
  rw [World.cell?_setCells_out _ _ _ _ _ (fun e => absurd e (by simp)), World.cell?_alloc_lt _ _ _ (by simp)]
  exact new_cell _ _ _ 0 rfl
 have HX : Hid (X < w.heap.size) := zX
 clear hE hp hl hX tw hb hP zX hlen hsz hcs hone
 go_enter_defers Tryz.func60, Tryz.ntmps60
 have h0 := HRw.out.hb
 go_wp2_with (first | (refine wpList_load_mid rfl 80 (.tmp 6) rfl X 4 rfl cs _ HR.out Tryz.underlying80 rfl HI.out ?_) | (refine wpList_store_mid rfl 80 (.tmp 3) (.tmp 7) rfl (w.heap.size + 1) 0 cs.toArray rfl rfl HT.out (by simpa using HI.out) HO.out ?_))
 clear HR HT HI HO
 generalize ((w.alloc (.cells #[.pointer (some ⟨X, 4, none⟩)] 129)).alloc (zQ4)).setCells (w.heap.size + 1) 0 cs = W1 at *
 have nX : Hid (w.heap.size + 1 ≠ X ∧ w.heap.size ≠ X) := by
  have := HX.out
  exact ⟨by omega, by omega⟩
 refine (next_any X ha hc hA hC y (fun _ => 0) W1 (HE.out.below HRw.out.be) HRw.out.hp h4 HH.out.1 HH.out.2.1 HRw.out.pu.le).mono ?_
 rintro e w1 ⟨q1, hor⟩
 have HNx : Hid (Rw w0 w w1 X (w.heap.size + 1) w.heap.size ha hc y cs (fun _ => 0)) := HRw.out.touch (Touch.of_below q1) HH.out.2.2 nX.out.1 nX.out.2 HRw.out.pu (HRw.out.hp.below q1)
 obtain ⟨z, rfl, HOr⟩ : ∃ z : Int, e = .returned (.int .i64 z) ∧ Hid ((∃ k, k < y.n ∧ y.Can (fun _ => 0) k ∧ z = (k : Nat)) ∨ (z = -1 ∧ ∀ p, p < y.n → ¬ y.Can (fun _ => 0) p)) := by
  rcases hor with ⟨k, hk, hcan, rfl⟩ | ⟨rfl, hn⟩
  ·exact ⟨_, rfl, .inl ⟨k, hk, hcan, rfl⟩⟩
  ·exact ⟨_, rfl, .inr ⟨rfl, hn⟩⟩
 clear hor q1 h0 HRw
 go_wp2_with fail
 go_loopg [4] (sumL y.l y.n) (fun k p wr => ∃ d z, k = sumL y.l y.n - sumL d y.n ∧ p = .int .i64 z ∧ Rw w0 w wr X (w.heap.size + 1) w.heap.size ha hc y cs d ∧ Hid ((∃ k, k < y.n ∧ y.Can d k ∧ z = (k : Nat)) ∨ (z = -1 ∧ ∀ p, p < y.n → ¬ y.Can d p)))
 case atStart => exact ⟨_, z, by simp [sumL_zero], rfl, HNx.out, HOr.out⟩
 case round =>
  clear HNx HOr
  obtain ⟨d, zz, hgk, rfl, rw0, HOr⟩ := hrel
  have HRr : Hid (Rw w0 w wr X (w.heap.size + 1) w.heap.size ha hc y cs d) := rw0
  have h1 := rw0.hb
  have HG : Hid (gk = sumL y.l y.n - sumL d y.n) := hgk
  clear rw0 hgk
  rcases HOr.out with ⟨k, hk, hcan, rfl⟩ | ⟨rfl, hst⟩
  ·have HCn : Hid (y.Can d k) := hcan
   have hz : ¬ (k : Int) = -1 := by omega
   have hz' : ((k : Int) == -1) = false := by simp
   clear HOr hcan
   go_wp2_with fail
   refine (putOne_any X ha hc hA hC y d k wr (HE.out.below HRr.out.be) HRr.out.hp h4 hk HH.out.1 HH.out.2.1 HRr.out.pu.le HCn.out.1).mono ?_
   rintro e w1 ⟨rfl, hp1, t1⟩
   have hpu : y.Put (up d k) := .next HRr.out.pu hk HCn.out
   have HN : Hid (Rw w0 w w1 X (w.heap.size + 1) w.heap.size ha hc y cs (up d k)) := HRr.out.touch t1 HH.out.2.2 nX.out.1 nX.out.2 hpu hp1
   have HM : Hid (sumL y.l y.n - sumL (up d k) y.n < gk) := by
    have h2 := sumL_up (d := d) hk
    have h3 := sumL_le hpu.le y.n
    have h4 := HG.out
    show sumL y.l y.n - sumL (up d k) y.n < gk
    omega
   clear hp1 t1 hpu h1 HRr HG hz hz'
   generalize up d k = d2 at *
   have h1 := HN.out.hb
   go_wp2_with fail
   refine (next_any X ha hc hA hC y d2 w1 (HE.out.below HN.out.be) HN.out.hp h4 HH.out.1 HH.out.2.1 HN.out.pu.le).mono ?_
   rintro e w2 ⟨q2, hor⟩
   have HN2 : Hid (Rw w0 w w2 X (w.heap.size + 1) w.heap.size ha hc y cs d2) := HN.out.touch (Touch.of_below q2) HH.out.2.2 nX.out.1 nX.out.2 HN.out.pu (HN.out.hp.below q2)
   obtain ⟨z, rfl, HOr⟩ : ∃ z : Int, e = .returned (.int .i64 z) ∧ Hid ((∃ k, k < y.n ∧ y.Can d2 k ∧ z = (k : Nat)) ∨ (z = -1 ∧ ∀ p, p < y.n → ¬ y.Can d2 p)) := by
    rcases hor with ⟨k, hk, hcan, rfl⟩ | ⟨rfl, hn⟩
    ·exact ⟨_, rfl, .inl ⟨k, hk, hcan, rfl⟩⟩
    ·exact ⟨_, rfl, .inr ⟨rfl, hn⟩⟩
   clear hor q2 h1 HN
   go_wp2
   go_roundg (sumL y.l y.n - sumL d2 y.n)
   case measure => exact HM.out
   case rel => exact ⟨d2, z, rfl, rfl, HN2.out, HOr.out⟩
  ·have HRow : Hid (qB (y.All d) = qB y.Row) := by
    show qB (y.All d) = qB y.Row
    have hi := Hs.row_iff HRr.out.pu HH.out.1 hst
    by_cases hr : y.Row
    ·rw [qB_true hr, qB_true (hi.1 hr)]
    ·rw [qB_false hr, qB_false (fun h => hr (hi.2 h))]
   have HN : Hid (Rw w0 w wr X (w.heap.size + 1) w.heap.size ha hc y cs d) := HRr.out
   clear hst HG HOr HRr
   go_wp2_with fail
   refine (allPut_any X ha hc hA hC y d wr (HE.out.below HN.out.be) HN.out.hp h4 HH.out.2.1 HN.out.pu.le).mono ?_
   rintro e w2 ⟨rfl, b2⟩
   rw [HRow.out]
   have B2 : Hid (Below wr.heap.size wr w2) := b2
   clear b2 h1
   have HB2 : Hid (Below w0.heap.size w0 w2 ∧ w2.rangeAt (w.heap.size + 1) 0 cs ∧ w2.there X 4 21 ∧ w2.cell? ⟨w.heap.size, 0, none⟩ = some (.pointer (some ⟨X, 4, none⟩))) :=
    ⟨HN.out.be.trans (B2.out.mono HN.out.be.size), rangeAt_touch (P := fun _ => False) HN.out.bf (Touch.of_below B2.out) (fun h => h), (HN.out.hp.below B2.out).thereX, (B2.out.cell (p := ⟨w.heap.size, 0, none⟩) (World.block_lt_of_cell? wr _ HN.out.hb)).trans HN.out.hb⟩
   go_wp2
   refine leaves_cons (f := 117) (args := #[.pointer (some ⟨w.heap.size + 1, 0, none⟩), .pointer (some ⟨w.heap.size, 0, none⟩)]) (by simp) (by simp [go_sem]) ?_
   refine (rowBack X (w.heap.size + 1) w.heap.size w2 cs HL21.out.1 HL21.out.2 HB2.out.2.1 HB2.out.2.2.1 HB2.out.2.2.2 .returning).mono ?_
   rintro e u' w3 ⟨rfl, rfl, t3⟩
   exact ⟨_, results_tmp rfl _ _ _, rfl, HB2.out.1.trans (t3.below HB2.out.1.size fun b e => by have := HH.out.2.2; omega)⟩
theorem LL.ext {z : Bool} {e : TypeId} {sz : Nat} {E : TypeId} {w : World} {P : Nat → Prop} {v : Value} {n : Nat} {u : Nat → Value} {L L' : Nat → Nat} {c c' : Nat → List Value} (o : LL z e sz E w P v n u L c) (h : ∀ i, i < n → L' i = L i ∧ c' i = c i) : LL z e sz E w P v n u L' c' :=
 ⟨o.row, fun i hi => (by rw [(h i hi).1, (h i hi).2]; exact o.own i hi), o.rb, o.ob, o.ra, o.oa, o.nn⟩
theorem Lst.known {w : World} {B n : Nat} {v : Value} (h : Lst w B v n) : ∃ G, w.ownsRow B 136 5 v n (fI G n) := by
 obtain ⟨xs, ho, hx⟩ := h
 have hall := List.all_eq_true.1 hx
 have key : ∀ j, j < n * 5 → ∃ x : Int, xs[j]? = some (.int .i64 x) := by
  intro j hj
  have hl : j < xs.length := by rw [ho.1]; exact hj
  obtain ⟨x, hxx⟩ := isI_int (hall xs[j] (List.getElem_mem hl))
  exact ⟨x, by rw [List.getElem?_eq_getElem hl, hxx]⟩
 have inh : Inhabited Int := ⟨0⟩
 obtain ⟨f, hf⟩ := Go.Deep.choose_lt (α := Int) key
 refine ⟨fun i => ⟨f (i * 5), f (i * 5 + 1), f (i * 5 + 2), f (i * 5 + 3), f (i * 5 + 4)⟩, ?_⟩
 have e : xs = fI (fun i => ⟨f (i * 5), f (i * 5 + 1), f (i * 5 + 2), f (i * 5 + 3), f (i * 5 + 4)⟩) n := by
  refine List.ext_getElem? fun k => ?_
  have hl2 := fI_len (fun i => ⟨f (i * 5), f (i * 5 + 1), f (i * 5 + 2), f (i * 5 + 3), f (i * 5 + 4)⟩) n
  by_cases hk : k < n * 5
  ·have hfl := flat_at (f := fun i => cI ⟨f (i * 5), f (i * 5 + 1), f (i * 5 + 2), f (i * 5 + 3), f (i * 5 + 4)⟩) (sz := 5) (n := n) (fun _ _ => rfl) (i := k / 5) (j := k % 5) (by omega) (by omega)
   have hkk : k / 5 * 5 + k % 5 = k := by omega
   rw [hkk] at hfl
   rw [hf k hk]
   refine Eq.trans ?_ hfl.symm
   have hm : k % 5 = 0 ∨ k % 5 = 1 ∨ k % 5 = 2 ∨ k % 5 = 3 ∨ k % 5 = 4 := by omega
   rcases hm with m | m | m | m | m
   ·rw [m]; rw [m] at hkk; simp only [cI]; rw [show k / 5 * 5 = k by omega]; rfl
   ·rw [m]; rw [m] at hkk; simp only [cI]; rw [show k / 5 * 5 + 1 = k by omega]; rfl
   ·rw [m]; rw [m] at hkk; simp only [cI]; rw [show k / 5 * 5 + 2 = k by omega]; rfl
   ·rw [m]; rw [m] at hkk; simp only [cI]; rw [show k / 5 * 5 + 3 = k by omega]; rfl
   ·rw [m]; rw [m] at hkk; simp only [cI]; rw [show k / 5 * 5 + 4 = k by omega]; rfl
  ·rw [List.getElem?_eq_none (by rw [ho.1]; omega), List.getElem?_eq_none (by rw [hl2]; omega)]
 rw [← e]
 exact ho
end Go.Proofs.YtbleeedbiipfnaaGreatDoor
