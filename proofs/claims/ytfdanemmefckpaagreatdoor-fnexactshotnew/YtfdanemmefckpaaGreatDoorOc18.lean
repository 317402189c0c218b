/- A system of one's own: its bounds, its form. -/
import Derived.Test.YtfdanemmefckpaaGreatDoorOc0
import Derived.Test.YtfdanemmefckpaaGreatDoorOc16
import Derived.Test.YtfdanemmefckpaaGreatDoorOc15
import Derived.Test.YtfdanemmefckpaaGreatDoorOc11
import Derived.Test.YtfdanemmefckpaaGreatDoorOc17
import Derived.Test.YtfdanemmefckpaaGreatDoorOc2
import Derived.Deep.RegionHeld3
import Derived.Deep.RegionWith
import Derived.Deep.RegionLaw
namespace Go.Proofs.YtfdanemmefckpaaGreatDoor
set_option maxRecDepth 100000
set_option maxHeartbeats 4000000
open Go.ChangeShapes Go.WideShapes Go.ChangeAt Go.RowKit Go.Deep
structure Sy where
 pn : Nat
 pL : Nat → Nat
 pH : Nat → Nat → I5
 sn : Nat
 sS : Nat → S4
 wn : Nat
 wL : Nat → Nat
 wH : Nat → Nat → I2
 hn : Nat
 hL : Nat → Nat
 hH : Nat → Nat → E3
def SysIn.y (x : SysIn) : Sy := ⟨x.pn, x.pL, x.pH, x.sn, x.sS, x.wn, x.wL, x.wH, x.hn, x.hL, x.hH⟩
def Sy.hs (y : Sy) : Hs := ⟨y.pn, y.hL, y.hH⟩
def itemB (x : I2) : Bool := numB x.v && (!x.m || x.v == 0)
structure WayP (h : Nat → I2) (len : Nat) (took sent : List Int) : Prop where
 it : ∀ i, i < len → itemB (h i) = true
 le : len ≤ 12
 eq : took ++ numL h len = sent
structure Sy.Ok (y : Sy) : Prop where
 cn : (1 ≤ y.pn ∧ y.pn ≤ 4) ∧ y.sn = y.pn ∧ y.hn = y.pn ∧ y.wn = y.pn * y.pn
 pr : ∀ p, p < y.pn → progOkB (y.pH p) (y.pL p) y.pn = true
 rp : ∀ p, p < y.pn → repO (y.pH p) (y.pL p) (y.hH p) (y.hL p) = some (y.sS p)
 pe : ∀ p, p < y.pn → ∀ i, i < y.hL p → (y.hH p i).q < (y.pn : Int)
 wa : ∀ a, a < y.pn → ∀ b, b < y.pn → WayP (y.wH (a * y.pn + b)) (y.wL (a * y.pn + b)) (valL (y.hH b) 3 a (y.hL b)) (valL (y.hH a) 2 b (y.hL a))
 ro : y.hs.Row
noncomputable def Sy.okB (y : Sy) : Bool := @decide y.Ok (Classical.propDecidable _)
theorem Sy.okB_true {y : Sy} (h : y.Ok) : y.okB = true := by simp [Sy.okB, h]
theorem Sy.okB_false {y : Sy} (h : ¬ y.Ok) : y.okB = false := by simp [Sy.okB, h]
theorem Sy.ok_of {y : Sy} (h : y.okB = true) : y.Ok := by simpa [Sy.okB] using h
theorem evP_pos {g : Nat → I5} {len : Nat} {k : Nat} (h : progOkB g len 4 = true) (hk : k < len) : 0 ≤ evP (g k).o (g k).n := by
 have h5 := right_ins h hk
 simp only [insOkB, Bool.and_eq_true] at h5
 have h6 := h5.2
 unfold evP
 by_cases e6 : (g k).o = 6
 ·rw [if_pos e6]
  simp [opOkB, e6, inB] at h6
  omega
 ·rw [if_neg e6]
  by_cases e7 : (g k).o = 7
  ·rw [if_pos e7]
   simp [opOkB, e7, inB] at h6
   omega
  ·rw [if_neg e7]
   exact Int.le_refl _
theorem doB_peer {g : Nat → I5} {len : Nat} {p : Int} {rs os : List Int} {code k q v : Int} (h : doB g len p rs os code k q v = true) : 0 ≤ q := by
 have hr := doB_right h
 obtain ⟨h1, h2, -⟩ := right_parts hr
 obtain ⟨-, ⟨j, rfl, hj⟩, -⟩ := st_parts h2
 have hp := evP_pos h1 hj
 simp only [doB, canB, nxP, if_pos hr, Int.toNat_natCast] at h
 split at h
 ·simp only [Bool.and_eq_true] at h
  have h3 := h.2
  split at h3
  ·simp only [belB, decide_eq_true_eq] at h3
   omega
  ·simp only [beq_iff_eq] at h3
   omega
 ·simp only [Bool.and_eq_true, beq_iff_eq] at h
  have := h.2.2.1
  omega
theorem rp_peer {g : Nat → I5} {len : Nat} {eh : Nat → E3} : ∀ {k : Nat} {S : S4}, rp g len eh k = some S → ∀ i, i < k → 0 ≤ (eh i).q
 | 0, _, _, i, hi => by omega
 | k + 1, S, h, i, hi => by
  simp only [rp] at h
  cases hr : rp g len eh k with
  | none => rw [hr] at h; cases h
  | some S0 =>
   rw [hr] at h
   simp only [Option.bind_some, rpStep] at h
   split at h
   ·rename_i hd
    by_cases e : i = k
    ·subst e
     exact doB_peer hd
    ·exact rp_peer hr i (by omega)
   ·cases h
theorem repO_some {g : Nat → I5} {n : Nat} {eh : Nat → E3} {m : Nat} {S : S4} (h : repO g n eh m = some S) : progOkB g n 4 = true ∧ m ≤ 200 ∧ rp g n eh m = some S := by
 unfold repO at h
 split at h
 ·rename_i hc
  exact ⟨hc.1, hc.2, h⟩
 ·cases h
structure SysG (W : World) (x : SysIn) : Prop where
 p : RowS W x.pa x.pn fun i => .slice (x.pA i) (x.pL i) (x.pC i)
 pi : ∀ i, i < x.pn → ∃ b, x.pA i = some ⟨b, 0, none⟩ ∧ b < W.heap.size ∧ InsAt W b 0 (x.pL i) (x.pH i)
 s : AllState W x.sa x.sn x.sQ
 w : RowS W x.wa x.wn fun i => .slice (x.wA i) (x.wL i) (x.wC i)
 wi : ∀ i, i < x.wn → ItL W (x.wA i) (x.wL i) (x.wH i)
 h : RowS W x.ha x.hn fun i => .slice (x.hA i) (x.hL i) (x.hC i)
 hi : ∀ i, i < x.hn → EvL W (x.hA i) (x.hL i) (x.hH i)
theorem SysG.below {w w' : World} {x : SysIn} (o : SysG w x) (hb : Below w.heap.size w w') : SysG w' x :=
 ⟨o.p.below hb, fun i hi => by
  obtain ⟨b, e, hlt, hI⟩ := o.pi i hi
  exact ⟨b, e, Nat.lt_of_lt_of_le hlt hb.size, hI.below hb hlt⟩, o.s.below hb, o.w.below hb, fun i hi => (o.wi i hi).below hb, o.h.below hb, fun i hi => (o.hi i hi).below hb⟩
structure SysIn.Len (x : SysIn) : Prop where
 p : x.pn ≤ 1048576 ∧ ∀ i, i < x.pn → x.pL i ≤ 1048576
 s : x.sn ≤ 1048576 ∧ ∀ i, i < x.sn → (x.sQ i).rs.length ≤ 1048576 ∧ (x.sQ i).os.length ≤ 1048576
 w : x.wn ≤ 1048576 ∧ ∀ i, i < x.wn → x.wL i ≤ 1048576
 h : x.hn ≤ 1048576 ∧ ∀ i, i < x.hn → x.hL i ≤ 1048576
abbrev SysIn.v (x : SysIn) : Value := sysV x.pa x.pn x.pc x.sa x.sn x.sc x.wa x.wn x.wc x.ha x.hn x.hc
variable {z : Bool}
structure OwnS (z : Bool) (w : World) (B : Nat) (c : Nat → Nat) (y : Sy) (vp vs vw vh : Value) (up us uw uh : Nat → Value) : Prop where
 p : LI z w (Cl B c 1) vp y.pn up y.pL y.pH
 s : LS w (Cl B c 2) vs y.sn us y.sS
 t : LT z w (Cl B c 3) vw y.wn uw y.wL y.wH
 h : LE z w (Cl B c 4) vh y.hn uh y.hL y.hH
theorem OwnS.below {w w' : World} {B : Nat} {c : Nat → Nat} {y : Sy} {vp vs vw vh : Value} {up us uw uh : Nat → Value} (o : OwnS z w B c y vp vs vw vh up us uw uh) (hb : Below w.heap.size w w') : OwnS z w' B c y vp vs vw vh up us uw uh := ⟨o.p.below hb, o.s.below hb, o.t.below hb, o.h.below hb⟩
def OwnSys (z : Bool) (w : World) (B : Nat) (y : Sy) (v : Value) : Prop := ∃ c vp vs vw vh up us uw uh, v = .agg #[vp, vs, vw, vh] ∧ OwnS z w B c y vp vs vw vh up us uw uh
theorem OwnSys.below {w w' : World} {B : Nat} {y : Sy} {v : Value} (o : OwnSys z w B y v) (hb : Below w.heap.size w w') : OwnSys z w' B y v := by
 obtain ⟨c, vp, vs, vw, vh, up, us, uw, uh, e, o⟩ := o
 exact ⟨c, vp, vs, vw, vh, up, us, uw, uh, e, o.below hb⟩
def rcol (c : Nat → Nat) (n q : Nat) : Nat → Nat := fun k => if k < n then c k else q
theorem rcol_old {c : Nat → Nat} {n q k : Nat} (h : k < n) : rcol c n q k = c k := if_pos h
theorem rcol_new {c : Nat → Nat} {n q k : Nat} (h : n ≤ k) : rcol c n q k = q := if_neg (by omega)
theorem Cl.old {B : Nat} {c : Nat → Nat} {n q i k : Nat} (h : Cl B c i k) (hk : k < n) : Cl B (rcol c n q) i k := ⟨h.1, (rcol_old hk).trans h.2⟩
structure CpB (B N : Nat) (c : Nat → Nat) (y : Sy) (ks kw : Nat) (wx : World) (vp vs vw vh : Value) (up us uw uh : Nat → Value) : Prop where
 bx : BoxC wx N vp vs vw vh
 fr : ∀ j, wx.frozen? ⟨N, j, none⟩ = false
 cN : c N = 0
 bN : B ≤ N
 o : OwnS true wx B c { y with sn := ks, wn := kw } vp vs vw vh up us uw uh
section
variable {B N : Nat} {c : Nat → Nat} {y : Sy} {ks kw : Nat} {wr : World} {vp vs vw vh : Value} {up us uw uh : Nat → Value}
theorem CpB.lt (h : CpB B N c y ks kw wr vp vs vw vh up us uw uh) : N < wr.heap.size := World.block_lt_of_cell? wr _ h.bx.1
theorem CpB.state (h : CpB B N c y ks kw wr vp vs vw vh up us uw uh) {w1 w3 : World} {u' v' : Value} (b1 : Below wr.heap.size wr w1) (hu : StOwn w1 wr.heap.size u' (y.sS ks).p (y.sS ks).rs (y.sS ks).os (y.sS ks).c) (hv : w3.ownsRow 0 123 4 v' (ks + 1) (flat (fun i => cellsL (us i)) ks ++ cellsL u')) (g : w1.grownBy w3 vs.ownBlock) (hv' : ∀ j, v'.ownBlock = some j → vs.ownBlock = some j ∨ w1.heap.size ≤ j) :
  CpB B N (rcol c wr.heap.size 2) y (ks + 1) kw (w3.setCell ⟨N, 1, none⟩ v') vp v' vw vh up (fun j => if j = ks then u' else us j) uw uh := by
 have hN := h.lt
 have hkeep : ∀ k, k < wr.heap.size → c k ≠ 2 → w3.heap[k]? = wr.heap[k]? := fun k hk hc => (g.block k (Nat.lt_of_lt_of_le hk b1.size) fun e => hc (h.o.s.rb k e.symm).2).trans (b1.block k hk)
 have hset : ∀ k, k ≠ N → (w3.setCell ⟨N, 1, none⟩ v').heap[k]? = w3.heap[k]? := fun k hk => Below.heap_setCell _ _ _ _ hk
 have hcN : rcol c wr.heap.size 2 N = 0 := (rcol_old hN).trans h.cN
 have hBN : w3.heap[N]? = wr.heap[N]? := hkeep N hN (by rw [h.cN]; decide)
 have hkk : ∀ i, i ≠ 2 → i ≠ 0 → ∀ k, Cl B (rcol c wr.heap.size 2) i k → k < wr.heap.size → (w3.setCell ⟨N, 1, none⟩ v').heap[k]? = wr.heap[k]? := fun i h2 h0 k hk hl => by
  have e : c k = i := (rcol_old hl).symm.trans hk.2
  exact (hset k fun en => h0 (by rw [← e, en, h.cN])).trans (hkeep k hl (by rw [e]; exact h2))
 have hP : ∀ i k, Cl B c i k → k < wr.heap.size → Cl B (rcol c wr.heap.size 2) i k := fun i k hk hl => hk.old hl
 have hP' : ∀ k, wr.heap.size ≤ k → k < w3.heap.size → Cl B (rcol c wr.heap.size 2) 2 k := fun k hk _ => ⟨Nat.le_trans h.bN (Nat.le_trans (Nat.le_of_lt hN) hk), rcol_new hk⟩
 obtain ⟨x0, x1, x2, x3⟩ := h.bx
 have hc : ∀ j, w3.cell? ⟨N, j, none⟩ = wr.cell? ⟨N, j, none⟩ := fun j => World.cell?_of_block hBN
 have hnew : ∀ k, Cl B (rcol c wr.heap.size 2) 2 k → k < w3.heap.size → (w3.setCell ⟨N, 1, none⟩ v').heap[k]? = w3.heap[k]? := fun k hk _ => hset k fun e => by
  have e2 := hk.2
  rw [e, hcN] at e2
  cases e2
 refine ⟨⟨?_, ?_, ?_, ?_⟩, fun j => ?_, hcN, h.bN, ⟨?_, ?_, ?_, ?_⟩⟩
 ·rw [World.cell?_setCell_other _ _ _ _ (by simp), hc]; exact x0
 ·exact World.cell?_setCell_same _ _ _ ((hc 1).trans x1)
 ·rw [World.cell?_setCell_other _ _ _ _ (by simp), hc]; exact x2
 ·rw [World.cell?_setCell_other _ _ _ _ (by simp), hc]; exact x3
 ·rw [World.frozen?_setCell, World.frozen?_of_block hBN]; exact h.fr j
 ·exact (h.o.p.mono (hP 1)).keep (hkk 1 (by decide) (by decide))
 ·exact (h.o.s.push b1 hu hv g hv' (hP 2) hP').keep hnew
 ·exact (h.o.t.mono (hP 3)).keep (hkk 3 (by decide) (by decide))
 ·exact (h.o.h.mono (hP 4)).keep (hkk 4 (by decide) (by decide))
theorem CpB.way (h : CpB B N c y ks kw wr vp vs vw vh up us uw uh) {w1 w3 : World} {u' v' : Value} (b1 : Below wr.heap.size wr w1) (hu : w1.ownsRow wr.heap.size 95 2 u' (y.wL kw) (fT (y.wH kw) (y.wL kw))) (hne : u' ≠ .slice none 0 0) (hv : w3.ownsRow 0 93 1 v' (kw + 1) ((List.range kw).map uw ++ [u'])) (g : w1.grownBy w3 vw.ownBlock) (hv' : ∀ j, v'.ownBlock = some j → vw.ownBlock = some j ∨ w1.heap.size ≤ j) :
  CpB B N (rcol c wr.heap.size 3) y ks (kw + 1) (w3.setCell ⟨N, 2, none⟩ v') vp vs v' vh up us (fun j => if j = kw then u' else uw j) uh := by
 have hN := h.lt
 have hkeep : ∀ k, k < wr.heap.size → c k ≠ 3 → w3.heap[k]? = wr.heap[k]? := fun k hk hc => (g.block k (Nat.lt_of_lt_of_le hk b1.size) fun e => hc (h.o.t.rb k e.symm).2).trans (b1.block k hk)
 have hset : ∀ k, k ≠ N → (w3.setCell ⟨N, 2, none⟩ v').heap[k]? = w3.heap[k]? := fun k hk => Below.heap_setCell _ _ _ _ hk
 have hcN : rcol c wr.heap.size 3 N = 0 := (rcol_old hN).trans h.cN
 have hBN : w3.heap[N]? = wr.heap[N]? := hkeep N hN (by rw [h.cN]; decide)
 have hkk : ∀ i, i ≠ 3 → i ≠ 0 → ∀ k, Cl B (rcol c wr.heap.size 3) i k → k < wr.heap.size → (w3.setCell ⟨N, 2, none⟩ v').heap[k]? = wr.heap[k]? := fun i h2 h0 k hk hl => by
  have e : c k = i := (rcol_old hl).symm.trans hk.2
  exact (hset k fun en => h0 (by rw [← e, en, h.cN])).trans (hkeep k hl (by rw [e]; exact h2))
 have hP : ∀ i k, Cl B c i k → k < wr.heap.size → Cl B (rcol c wr.heap.size 3) i k := fun i k hk hl => hk.old hl
 have hP' : ∀ k, wr.heap.size ≤ k → k < w3.heap.size → Cl B (rcol c wr.heap.size 3) 3 k := fun k hk _ => ⟨Nat.le_trans h.bN (Nat.le_trans (Nat.le_of_lt hN) hk), rcol_new hk⟩
 obtain ⟨x0, x1, x2, x3⟩ := h.bx
 have hc : ∀ j, w3.cell? ⟨N, j, none⟩ = wr.cell? ⟨N, j, none⟩ := fun j => World.cell?_of_block hBN
 have hnew : ∀ k, Cl B (rcol c wr.heap.size 3) 3 k → k < w3.heap.size → (w3.setCell ⟨N, 2, none⟩ v').heap[k]? = w3.heap[k]? := fun k hk _ => hset k fun e => by
  have e2 := hk.2
  rw [e, hcN] at e2
  cases e2
 refine ⟨⟨?_, ?_, ?_, ?_⟩, fun j => ?_, hcN, h.bN, ⟨?_, ?_, ?_, ?_⟩⟩
 ·rw [World.cell?_setCell_other _ _ _ _ (by simp), hc]; exact x0
 ·rw [World.cell?_setCell_other _ _ _ _ (by simp), hc]; exact x1
 ·exact World.cell?_setCell_same _ _ _ ((hc 2).trans x2)
 ·rw [World.cell?_setCell_other _ _ _ _ (by simp), hc]; exact x3
 ·rw [World.frozen?_setCell, World.frozen?_of_block hBN]; exact h.fr j
 ·exact (h.o.p.mono (hP 1)).keep (hkk 1 (by decide) (by decide))
 ·exact (h.o.s.mono (hP 2)).keep (hkk 2 (by decide) (by decide))
 ·exact (h.o.t.push b1 hu (fun _ => hne) hv g hv' (hP 3) hP').keep hnew
 ·exact (h.o.h.mono (hP 4)).keep (hkk 4 (by decide) (by decide))
end
theorem CpB.start {B l5 l6 N : Nat} {w5 w6 wf : World} {x : SysIn} {vp vh : Value} {up uh : Nat → Value} (o5 : LI true w5 (fun k => l5 ≤ k ∧ k < w5.heap.size) vp x.pn up x.pL x.pH) (o6 : LE true w6 (fun k => l6 ≤ k ∧ k < w6.heap.size) vh x.hn uh x.hL x.hH) (hb : Below w5.heap.size w5 w6) (h5 : B ≤ l5) (h6 : w5.heap.size ≤ l6) (h56 : B ≤ w5.heap.size) (h55 : l5 ≤ w5.heap.size)
  (hN : N < l5 ∨ (w5.heap.size ≤ N ∧ N < l6) ∨ w6.heap.size ≤ N) (hBN : B ≤ N) (hf : ∀ k, k < w6.heap.size → k ≠ N → wf.heap[k]? = w6.heap[k]?) (hbx : BoxC wf N vp (.slice none 0 0) (.slice none 0 0) vh) (hfr : ∀ j, wf.frozen? ⟨N, j, none⟩ = false) :
  ∃ c vp vh up uh, CpB B N c x.y 0 0 wf vp (.slice none 0 0) (.slice none 0 0) vh up (fun _ => .slice none 0 0) (fun _ => .slice none 0 0) uh := by
 have hs := hb.size
 have hc0 : ∀ k, Cl B (fun k => if k = N then 0 else if k < w5.heap.size then 1 else 4) 1 k ∨ Cl B (fun k => if k = N then 0 else if k < w5.heap.size then 1 else 4) 4 k → k ≠ N := fun k hk e => by
  rcases hk with hk | hk
  ·have e2 : (if k = N then 0 else if k < w5.heap.size then 1 else 4) = 1 := hk.2
   rw [if_pos e] at e2
   cases e2
  ·have e2 : (if k = N then 0 else if k < w5.heap.size then 1 else 4) = 4 := hk.2
   rw [if_pos e] at e2
   cases e2
 have g5 : LI true w5 (Cl B (fun k => if k = N then 0 else if k < w5.heap.size then 1 else 4) 1) vp x.pn up x.pL x.pH := o5.mono fun k hk _ => ⟨by omega, by
  show (if k = N then 0 else if k < w5.heap.size then 1 else 4) = 1
  rw [if_neg (by omega), if_pos hk.2]⟩
 have g6 : LE true w6 (Cl B (fun k => if k = N then 0 else if k < w5.heap.size then 1 else 4) 4) vh x.hn uh x.hL x.hH := o6.mono fun k hk _ => ⟨by omega, by
  show (if k = N then 0 else if k < w5.heap.size then 1 else 4) = 4
  rw [if_neg (by omega), if_neg (by omega)]⟩
 exact ⟨fun k => if k = N then 0 else if k < w5.heap.size then 1 else 4, vp, vh, up, uh, hbx, hfr, if_pos rfl, hBN, ⟨g5.keep fun k hk hl => (hf k (by omega) (hc0 k (.inl hk))).trans (hb.block k hl), LS.nil _ _ _ _, LL.nil _ _ _ _ _ _ _ _, g6.keep fun k hk hl => hf k hl (hc0 k (.inr hk))⟩⟩
theorem l4Copy_any (x : SysIn) (w : World) (hG : SysG w x) (hL : x.Len) :
  Calls Tryz.prog 29 #[x.v] w fun e w' => ∃ v, e = .returned v ∧ OwnSys true w' w.heap.size x.y v ∧ Below w.heap.size w w' := by
 have HG : Hid (SysG w x) := hG
 have HL : Hid x.Len := hL
 have hsn' : (x.sn : Int) ≤ 1048576 := by have := hL.s.1; omega
 have hwn' : (x.wn : Int) ≤ 1048576 := by have := hL.w.1; omega
 have BW : Hid (Below w.heap.size w ((w.alloc (oQ4 x.pa x.pn x.pc x.sa x.sn x.sc x.wa x.wn x.wc x.ha x.hn x.hc)).alloc (zQ2))) := (below_allocL _ _).trans ((below_allocL _ _).mono (by simp))
 have NB : Hid (BoxC ((w.alloc (oQ4 x.pa x.pn x.pc x.sa x.sn x.sc x.wa x.wn x.wc x.ha x.hn x.hc)).alloc (zQ2)) w.heap.size (.slice x.pa x.pn x.pc) (.slice x.sa x.sn x.sc) (.slice x.wa x.wn x.wc) (.slice x.ha x.hn x.hc)) := (BoxC.new w _ _ _ _ _).below (below_allocL _ _)
 have RB : Hid (BoxC ((w.alloc (oQ4 x.pa x.pn x.pc x.sa x.sn x.sc x.wa x.wn x.wc x.ha x.hn x.hc)).alloc (zQ2)) (w.heap.size + 1) (.slice none 0 0) (.slice none 0 0) (.slice none 0 0) (.slice none 0 0) ∧ ∀ j, ((w.alloc (oQ4 x.pa x.pn x.pc x.sa x.sn x.sc x.wa x.wn x.wc x.ha x.hn x.hc)).alloc (zQ2)).frozen? ⟨w.heap.size + 1, j, none⟩ = false) := ⟨⟨new_cell _ _ _ 0 (by simp), new_cell _ _ _ 1 (by simp), new_cell _ _ _ 2 (by simp), new_cell _ _ _ 3 (by simp)⟩, fun j => new_frozen _ _ _ _ (by simp)⟩
 have hz : ((w.alloc (oQ4 x.pa x.pn x.pc x.sa x.sn x.sc x.wa x.wn x.wc x.ha x.hn x.hc)).alloc (zQ2)).heap.size = w.heap.size + 2 := by simp
 clear hG hL
 go_enter Tryz.func29, Tryz.ntmps29
 go_wp2_with fail
 generalize (w.alloc (oQ4 x.pa x.pn x.pc x.sa x.sn x.sc x.wa x.wn x.wc x.ha x.hn x.hc)).alloc (zQ2) = W2 at *
 obtain ⟨b0, b1, b2, b3⟩ := NB.out
 have d1 : W2.heap.size ≠ w.heap.size := by omega
 have hl0 : w.heap.size < W2.heap.size := by omega
 have hl1 : w.heap.size + 1 < W2.heap.size := by omega
 have hl2 : Hid (w.heap.size ≤ W2.heap.size) := by show w.heap.size ≤ W2.heap.size; omega
 clear hz
 have HP : Hid (∀ wx, Below W2.heap.size W2 wx → (RowS wx x.pa x.pn fun i => .slice (x.pA i) (x.pL i) (x.pC i)) ∧ ∀ i, i < x.pn → Src wx (x.pA i) (fI (x.pH i) (x.pL i))) := fun wx hb => ⟨(HG.out.below (BW.out.trans (hb.mono BW.out.size))).p, fun i hi => by
  obtain ⟨b, e, hlt, hI⟩ := (HG.out.below (BW.out.trans (hb.mono BW.out.size))).pi i hi
  rw [e]
  exact srcI hlt hI⟩
 have HH : Hid (∀ wx, Below W2.heap.size W2 wx → (RowS wx x.ha x.hn fun i => .slice (x.hA i) (x.hL i) (x.hC i)) ∧ ∀ i, i < x.hn → Src wx (x.hA i) (fE (x.hH i) (x.hL i))) := fun wx hb => ⟨(HG.out.below (BW.out.trans (hb.mono BW.out.size))).h, fun i hi => srcE ((HG.out.below (BW.out.trans (hb.mono BW.out.size))).hi i hi)⟩
 go_cut [3] from 6 to 12 (fun s wx => ∃ N : Nat, s = .pointer (some ⟨N, 0, none⟩) ∧ Hid ((∃ c vp vh up uh, CpB W2.heap.size N c x.y 0 0 wx vp (.slice none 0 0) (.slice none 0 0) vh up (fun _ => (.slice none 0 0)) (fun _ => (.slice none 0 0)) uh) ∧ Below W2.heap.size W2 wx))
 case first =>
  refine wp_region_G (fun w' => w'.cell? ⟨w.heap.size, 0, none⟩ = some (.slice x.pa x.pn x.pc) ∧ w'.cell? ⟨w.heap.size, 3, none⟩ = some (.slice x.ha x.hn x.hc)) (fun i => i == 8) (by kernel_rfl) ?_
  have hHeld := And.intro b0 b3
  refine wpGT_of [0,1,3,4] ?_
  iterate 4 (refine wpGT_k rfl hHeld ?_)
  refine wpGT_nil ?_
  refine wpG_two 2 7 rfl rfl (by kernel_rfl) (fun K hK => ?_) (fun K hK => ?_)
  ·refine stepR_call rfl 81 _ _ rfl #[.slice x.pa x.pn x.pc] (by simp [Act.eval]) (run_enter Tryz.func81 (by kernel_rfl) rfl) (l4Ins_any x.pa x.pn x.pc x.pA x.pL x.pC x.pH (W2.drew) HL.out.p.1 HL.out.p.2 (HP.out _ (Below.refl _ _).drew).1 (HP.out _ (Below.refl _ _).drew).2) ?_
   rintro e w5 ⟨v5, u5, rfl, o5, b5⟩
   obtain ⟨a5, c5, rfl⟩ := ownsRow_slice o5.row
   refine ⟨_, rfl, ?_⟩
   have q5 : Below W2.heap.size W2 w5 := below_up (Below.refl _ _).drew b5 (by simp)
   have y0 := (q5.cell (p := ⟨w.heap.size, 0, none⟩) hl0).trans b0
   have y3 := (q5.cell (p := ⟨w.heap.size, 3, none⟩) hl0).trans b3
   have z5 := q5.size
   refine hK.out _ _ (fun _ => ⟨y0, y3⟩) ?_
   have hHeld := And.intro y0 y3
   clear hK K
   (try simp only [Act.put, List.setIfInBounds_toArray, List.set_cons_zero, List.set_cons_succ])
   refine wpG_two 5 7 rfl rfl (by kernel_rfl) (fun K hK => ?_) (fun K hK => ?_)
   ·refine stepR_call rfl 82 _ _ rfl #[.slice x.ha x.hn x.hc] (by simp [Act.eval]) (run_enter Tryz.func82 (by kernel_rfl) rfl) (l4Events_any x.ha x.hn x.hc x.hA x.hL x.hC x.hH (w5) HL.out.h.1 HL.out.h.2 (HH.out _ (q5.trans ((Below.refl w5.heap.size w5).mono q5.size))).1 (HH.out _ (q5.trans ((Below.refl w5.heap.size w5).mono q5.size))).2) ?_
    rintro e w6 ⟨v6, u6, rfl, o6, b6⟩
    obtain ⟨a6, c6, rfl⟩ := ownsRow_slice o6.row
    refine ⟨_, rfl, ?_⟩
    have p6 : Below w5.heap.size w5 w6 := below_up (Below.refl w5.heap.size w5) b6 (by simp)
    have q6 : Below W2.heap.size W2 w6 := q5.trans (p6.mono q5.size)
    have x0 := (q6.cell (p := ⟨w.heap.size, 0, none⟩) hl0).trans b0
    have x3 := (q6.cell (p := ⟨w.heap.size, 3, none⟩) hl0).trans b3
    have z6 := p6.size
    refine hK.out _ _ (fun _ => ⟨x0, x3⟩) ?_
    have hHeld := And.intro x0 x3
    clear hK K
    (try simp only [Act.put, List.setIfInBounds_toArray, List.set_cons_zero, List.set_cons_succ])
    refine wpG_k 6 rfl hHeld ?_
    refine wpG_one 7 rfl (by kernel_rfl) (fun K hK => ?_)
    go_simp
    have t0 : (w6.alloc (zQ2)).cell? ⟨w.heap.size, 0, none⟩ = some (.slice x.pa x.pn x.pc) := ((below_allocL w6 _).cell (p := ⟨w.heap.size, 0, none⟩) (Nat.lt_of_lt_of_le hl0 q6.size)).trans x0
    have t3 : (w6.alloc (zQ2)).cell? ⟨w.heap.size, 3, none⟩ = some (.slice x.ha x.hn x.hc) := ((below_allocL w6 _).cell (p := ⟨w.heap.size, 3, none⟩) (Nat.lt_of_lt_of_le hl0 q6.size)).trans x3
    refine hK.out _ _ (fun _ => ⟨t0, t3⟩) ?_
    clear hK K
    (try simp only [Act.put, List.setIfInBounds_toArray, List.set_cons_zero, List.set_cons_succ])
    refine wpG_one 8 rfl (by kernel_rfl) (fun K hK => ?_)
    go_simp
    refine hK.out _ _ (fun h => ?_) ?_
    ·exact absurd h (by decide)
    clear hK K
    (try simp only [Act.put])
    refine wpG_done (by kernel_rfl) ?_ _
    go_wp2_with fail
    go_meet
    case rel =>
     exact ⟨w6.heap.size, by with_reducible rfl, CpB.start (l5 := W2.heap.size) (by simpa using o5) o6 p6 (by omega) (by omega) (by omega) (by omega) (by omega) (by omega) (fun k hk _ => (below_allocL w6 _).block k hk) (BoxC.new _ _ _ _ _ _) (fun j => new_frozen _ _ _ _ rfl), q6.trans ((below_allocL _ _).mono q6.size)⟩
   ·go_simp
    have t0 : (w5.alloc (zQ2)).cell? ⟨w.heap.size, 0, none⟩ = some (.slice x.pa x.pn x.pc) := ((below_allocL w5 _).cell (p := ⟨w.heap.size, 0, none⟩) (Nat.lt_of_lt_of_le hl0 q5.size)).trans y0
    have t3 : (w5.alloc (zQ2)).cell? ⟨w.heap.size, 3, none⟩ = some (.slice x.ha x.hn x.hc) := ((below_allocL w5 _).cell (p := ⟨w.heap.size, 3, none⟩) (Nat.lt_of_lt_of_le hl0 q5.size)).trans y3
    refine hK.out _ _ (fun _ => ⟨t0, t3⟩) ?_
    clear hK K
    (try simp only [Act.put, List.setIfInBounds_toArray, List.set_cons_zero, List.set_cons_succ])
    refine wpG_one 5 rfl (by kernel_rfl) (fun K hK => ?_)
    refine stepR_call rfl 82 _ _ rfl #[.slice x.ha x.hn x.hc] (by simp [Act.eval]) (run_enter Tryz.func82 (by kernel_rfl) rfl) (l4Events_any x.ha x.hn x.hc x.hA x.hL x.hC x.hH (w5.alloc (zQ2)) HL.out.h.1 HL.out.h.2 (HH.out _ (q5.trans ((below_allocL w5 (zQ2)).mono q5.size))).1 (HH.out _ (q5.trans ((below_allocL w5 (zQ2)).mono q5.size))).2) ?_
    rintro e w6 ⟨v6, u6, rfl, o6, b6⟩
    obtain ⟨a6, c6, rfl⟩ := ownsRow_slice o6.row
    refine ⟨_, rfl, ?_⟩
    have p6 : Below w5.heap.size w5 w6 := below_up (below_allocL w5 (zQ2)) b6 (by simp)
    have q6 : Below W2.heap.size W2 w6 := q5.trans (p6.mono q5.size)
    have x0 := (q6.cell (p := ⟨w.heap.size, 0, none⟩) hl0).trans b0
    have x3 := (q6.cell (p := ⟨w.heap.size, 3, none⟩) hl0).trans b3
    have z6 := p6.size
    refine hK.out _ _ (fun _ => ⟨x0, x3⟩) ?_
    have hHeld := And.intro x0 x3
    clear hK K
    (try simp only [Act.put, List.setIfInBounds_toArray, List.set_cons_zero, List.set_cons_succ])
    have bx := (BoxC.new w5 (.slice none 0 0) (.slice none 0 0) (.slice none 0 0) (.slice none 0 0) 34).below b6
    obtain ⟨g0, g1, g2, g3⟩ := bx
    have gf : ∀ j, w6.frozen? ⟨w5.heap.size, j, none⟩ = false := fun j => ((bcell b6).2 _ _ (by simp)).trans (new_frozen _ _ _ _ rfl)
    refine wpG_k 6 rfl hHeld ?_
    refine wpG_one 8 rfl (by kernel_rfl) (fun K hK => ?_)
    go_simp
    refine hK.out _ _ (fun h => ?_) ?_
    ·exact absurd h (by decide)
    clear hK K
    (try simp only [Act.put])
    refine wpG_done (by kernel_rfl) ?_ _
    go_wp2_with fail
    go_meet
    case rel =>
     exact ⟨w5.heap.size, by with_reducible rfl, CpB.start (l5 := W2.heap.size) (l6 := w5.heap.size + 1) (by simpa using o5) (by simpa using o6) p6 (by omega) (by omega) (by omega) (by omega) (by omega) (by omega) (fun k hk hne => by repeat (rw [Below.heap_setCell _ _ _ _ hne])) (BoxC.set4 ⟨g0, g1, g2, g3⟩ _ _ _ _) (fun j => by simp only [World.frozen?_setCell]; exact gf j), (((q6.setCell q5.size _).setCell q5.size _).setCell q5.size _).setCell q5.size _⟩
  ·go_simp
   have t0 : (W2.drew.alloc (zQ2)).cell? ⟨w.heap.size, 0, none⟩ = some (.slice x.pa x.pn x.pc) := ((below_allocL W2.drew _).cell (p := ⟨w.heap.size, 0, none⟩) hl0).trans b0
   have t3 : (W2.drew.alloc (zQ2)).cell? ⟨w.heap.size, 3, none⟩ = some (.slice x.ha x.hn x.hc) := ((below_allocL W2.drew _).cell (p := ⟨w.heap.size, 3, none⟩) hl0).trans b3
   refine hK.out _ _ (fun _ => ⟨t0, t3⟩) ?_
   clear hK K
   (try simp only [Act.put, List.setIfInBounds_toArray, List.set_cons_zero, List.set_cons_succ])
   refine wpG_one 2 rfl (by kernel_rfl) (fun K hK => ?_)
   refine stepR_call rfl 81 _ _ rfl #[.slice x.pa x.pn x.pc] (by simp [Act.eval]) (run_enter Tryz.func81 (by kernel_rfl) rfl) (l4Ins_any x.pa x.pn x.pc x.pA x.pL x.pC x.pH (W2.drew.alloc (zQ2)) HL.out.p.1 HL.out.p.2 (HP.out _ ((Below.refl W2.heap.size W2).drew.trans (below_allocL W2.drew (zQ2)))).1 (HP.out _ ((Below.refl W2.heap.size W2).drew.trans (below_allocL W2.drew (zQ2)))).2) ?_
   rintro e w5 ⟨v5, u5, rfl, o5, b5⟩
   obtain ⟨a5, c5, rfl⟩ := ownsRow_slice o5.row
   refine ⟨_, rfl, ?_⟩
   have q5 : Below W2.heap.size W2 w5 := below_up ((Below.refl W2.heap.size W2).drew.trans (below_allocL W2.drew (zQ2))) b5 (by simp)
   have y0 := (q5.cell (p := ⟨w.heap.size, 0, none⟩) hl0).trans b0
   have y3 := (q5.cell (p := ⟨w.heap.size, 3, none⟩) hl0).trans b3
   have z5 := q5.size
   refine hK.out _ _ (fun _ => ⟨y0, y3⟩) ?_
   have hHeld := And.intro y0 y3
   clear hK K
   (try simp only [Act.put, List.setIfInBounds_toArray, List.set_cons_zero, List.set_cons_succ])
   have zc : W2.heap.size + 1 ≤ w5.heap.size := by have := b5.size; simpa using this
   refine wpG_one 5 rfl (by kernel_rfl) (fun K hK => ?_)
   refine stepR_call rfl 82 _ _ rfl #[.slice x.ha x.hn x.hc] (by simp [Act.eval]) (run_enter Tryz.func82 (by kernel_rfl) rfl) (l4Events_any x.ha x.hn x.hc x.hA x.hL x.hC x.hH (w5) HL.out.h.1 HL.out.h.2 (HH.out _ (q5.trans ((Below.refl w5.heap.size w5).mono q5.size))).1 (HH.out _ (q5.trans ((Below.refl w5.heap.size w5).mono q5.size))).2) ?_
   rintro e w6 ⟨v6, u6, rfl, o6, b6⟩
   obtain ⟨a6, c6, rfl⟩ := ownsRow_slice o6.row
   refine ⟨_, rfl, ?_⟩
   have p6 : Below w5.heap.size w5 w6 := below_up (Below.refl w5.heap.size w5) b6 (by simp)
   have q6 : Below W2.heap.size W2 w6 := q5.trans (p6.mono q5.size)
   have x0 := (q6.cell (p := ⟨w.heap.size, 0, none⟩) hl0).trans b0
   have x3 := (q6.cell (p := ⟨w.heap.size, 3, none⟩) hl0).trans b3
   have z6 := p6.size
   refine hK.out _ _ (fun _ => ⟨x0, x3⟩) ?_
   have hHeld := And.intro x0 x3
   clear hK K
   (try simp only [Act.put, List.setIfInBounds_toArray, List.set_cons_zero, List.set_cons_succ])
   have bx : BoxC w6 W2.heap.size (.slice none 0 0) (.slice none 0 0) (.slice none 0 0) (.slice none 0 0) := ((BoxC.new W2.drew (.slice none 0 0) (.slice none 0 0) (.slice none 0 0) (.slice none 0 0) 34).below b5).below b6
   obtain ⟨g0, g1, g2, g3⟩ := bx
   have gf : ∀ j, w6.frozen? ⟨W2.heap.size, j, none⟩ = false := fun j => ((bcell b6).2 _ _ (by omega)).trans (((bcell b5).2 _ _ (by simp)).trans (new_frozen _ _ _ _ rfl))
   refine wpG_k 6 rfl hHeld ?_
   refine wpG_one 8 rfl (by kernel_rfl) (fun K hK => ?_)
   go_simp
   refine hK.out _ _ (fun h => ?_) ?_
   ·exact absurd h (by decide)
   clear hK K
   (try simp only [Act.put])
   refine wpG_done (by kernel_rfl) ?_ _
   go_wp2_with fail
   go_meet
   case rel =>
    exact ⟨W2.heap.size, by with_reducible rfl, CpB.start (l5 := W2.heap.size + 1) (by simpa using o5) o6 p6 (by omega) (by omega) (by omega) (by omega) (by omega) (by omega) (fun k hk hne => by repeat (rw [Below.heap_setCell _ _ _ _ hne])) (BoxC.set4 ⟨g0, g1, g2, g3⟩ _ _ _ _) (fun j => by simp only [World.frozen?_setCell]; exact gf j), (((q6.setCell (Nat.le_refl _) _).setCell (Nat.le_refl _) _).setCell (Nat.le_refl _) _).setCell (Nat.le_refl _) _⟩
 case rest =>
  obtain ⟨N, rfl, HC⟩ := hcut
  clear b0 b1 b2 b3 HP HH
  go_wp2_with fail
  go_loopw [4] (fun i wr => ∃ k : Nat, k ≤ x.sn ∧ i = .int .i64 k ∧ Hid ((∃ c vp vs vh up us uh, CpB W2.heap.size N c x.y k 0 wr vp vs (.slice none 0 0) vh up us (fun _ => (.slice none 0 0)) uh) ∧ Below W2.heap.size W2 wr)) (fun i _ => x.sn - (intOf i).toNat)
  case atStart =>
   obtain ⟨⟨c, vp, vh, up, uh, cp⟩, bz⟩ := HC.out
   exact ⟨0, Nat.zero_le _, rfl, ⟨c, vp, _, vh, up, _, uh, cp⟩, bz⟩
  case round =>
   obtain ⟨k, hk, rfl, HZ⟩ := hrel
   clear HC
   by_cases hlt : k < x.sn
   ·have hlt' : (k : Int) < (x.sn : Int) := by omega
    obtain ⟨⟨c, vp, vs, vh, up, us, uh, cp⟩, bz⟩ := HZ.out
    obtain ⟨sa', sc', rfl⟩ := ownsRow_slice cp.o.s.row
    obtain ⟨x0, x1, x2, x3⟩ := cp.bx
    have xf := cp.fr
    have hN := cp.lt
    obtain ⟨b0, b1, b2, b3⟩ := NB.out.below bz
    obtain ⟨bs, os, es, s0, s1, s2, s3⟩ := (HG.out.below (BW.out.trans (bz.mono BW.out.size))).s.at hlt
    have hbs : bs < w.heap.size := by
     obtain ⟨bs', os', es', s0', -⟩ := HG.out.s.at hlt
     rw [es] at es'
     cases es'
     exact World.block_lt_of_cell? w _ s0'
    have hls := (HG.out.below (BW.out.trans (bz.mono BW.out.size))).s.lst k hlt
    have HLk := HL.out.s.2 k hlt
    rw [es] at b1
    have CP : Hid (CpB W2.heap.size N c x.y k 0 wr vp (.slice sa' k sc') (.slice none 0 0) vh up us (fun _ => (.slice none 0 0)) uh) := cp
    have LSt : Hid (Sl wr (x.sQ k).ra (x.sQ k).rs ∧ Sl wr (x.sQ k).oa (x.sQ k).os) := hls
    have BZ : Hid (Below W2.heap.size W2 wr) := bz
    have hbw : bs < wr.heap.size := by have := bz.size; omega
    have hb0w : w.heap.size < wr.heap.size := by have := bz.size; omega
    have hsaN : ∀ j, (Value.slice sa' k sc').ownBlock = some j → W2.heap.size ≤ j ∧ j ≠ N := fun j hj => ⟨(cp.o.s.rb j hj).1, fun e => by
     have h2 := (cp.o.s.rb j hj).2
     rw [e, cp.cN] at h2
     cases h2⟩
    have HSA : Hid (∀ j, (Value.slice sa' k sc').ownBlock = some j → W2.heap.size ≤ j ∧ j ≠ N) := hsaN
    have HE : Hid (x.sa = some ⟨bs, os, none⟩) := es
    clear cp bz hls HZ hsaN es
    go_wp2_with fail
    refine wp_region_G (fun w' => w'.cell? ⟨N, 1, none⟩ = some (.slice sa' k sc') ∧ w'.cell? ⟨w.heap.size, 1, none⟩ = some (.slice (some ⟨bs, os, none⟩) x.sn x.sc) ∧ w'.cell? ⟨bs, os + k * 4, none⟩ = some (.int .i64 (x.sQ k).p) ∧ w'.cell? ⟨bs, os + k * 4 + 1, none⟩ = some (.slice (x.sQ k).ra (x.sQ k).rs.length (x.sQ k).rc) ∧ w'.cell? ⟨bs, os + k * 4 + 2, none⟩ = some (.slice (x.sQ k).oa (x.sQ k).os.length (x.sQ k).oc) ∧ w'.cell? ⟨bs, os + k * 4 + 3, none⟩ = some (.int .i64 (x.sQ k).c)) (fun i => i == 11) (by kernel_rfl) ?_
    have hHeld := And.intro x1 (And.intro b1 (And.intro s0 (And.intro s1 (And.intro s2 s3))))
    refine wpGT_of [0,1,2,3,4,5,6] ?_
    iterate 7 (refine wpGT_k rfl hHeld ?_)
    refine wpGT_nil ?_
    refine wpG_one 7 rfl (by kernel_rfl) (fun K hK => ?_)
    refine stepR_call rfl 83 _ _ rfl #[stV (x.sQ k).p (x.sQ k).ra (x.sQ k).rs.length (x.sQ k).rc (x.sQ k).oa (x.sQ k).os.length (x.sQ k).oc (x.sQ k).c] (by simp [Act.eval]) (run_enter Tryz.func83 (by kernel_rfl) rfl) (l2Copy_any _ _ _ _ _ _ (x.sQ k).rs (x.sQ k).os wr.drew HLk.1 HLk.2 LSt.out.1 LSt.out.2) ?_
    rintro e w1 ⟨v1, rfl, o1, d1'⟩
    refine ⟨_, rfl, ?_⟩
    obtain ⟨ra1, rc1, oa1, oc1, rfl, -, -⟩ := o1.read
    have q1 : Below wr.heap.size wr w1 := (Below.refl wr.heap.size wr).drew.trans d1'
    have O1 : Hid (StOwn w1 wr.heap.size (stV (x.sQ k).p ra1 (x.sQ k).rs.length rc1 oa1 (x.sQ k).os.length oc1 (x.sQ k).c) (x.sQ k).p (x.sQ k).rs (x.sQ k).os (x.sQ k).c) := o1
    have hc1 : ∀ b o, b < wr.heap.size → w1.cell? ⟨b, o, none⟩ = wr.cell? ⟨b, o, none⟩ := fun b o h => (bcell q1).1 b o h
    have hHeld1 := And.intro ((hc1 _ _ hN).trans x1) (And.intro ((hc1 _ _ hb0w).trans b1) (And.intro ((hc1 _ _ hbw).trans s0) (And.intro ((hc1 _ _ hbw).trans s1) (And.intro ((hc1 _ _ hbw).trans s2) ((hc1 _ _ hbw).trans s3)))))
    have Q1 : Hid (Below wr.heap.size wr w1) := q1
    refine hK.out _ _ (fun _ => hHeld1) ?_
    clear hHeld o1 d1' q1 hc1
    clear hK K
    (try simp only [Act.put, List.setIfInBounds_toArray, List.set_cons_zero, List.set_cons_succ])
    refine wpG_one 8 rfl (by kernel_rfl) (fun K hK => ?_)
    go_simp
    have ba := below_allocL w1 (oQ1 (x.sQ k).p ra1 (x.sQ k).rs.length rc1 oa1 (x.sQ k).os.length oc1 (x.sQ k).c)
    have hca : ∀ b o, b < wr.heap.size → (w1.alloc (oQ1 (x.sQ k).p ra1 (x.sQ k).rs.length rc1 oa1 (x.sQ k).os.length oc1 (x.sQ k).c)).cell? ⟨b, o, none⟩ = w1.cell? ⟨b, o, none⟩ := fun b o h => (bcell ba).1 b o (Nat.lt_of_lt_of_le h Q1.out.size)
    obtain ⟨e0, e1, e2, e3, e4, e5⟩ := hHeld1
    refine hK.out _ _ (fun _ => ⟨(hca _ _ hN).trans e0, (hca _ _ hb0w).trans e1, (hca _ _ hbw).trans e2, (hca _ _ hbw).trans e3, (hca _ _ hbw).trans e4, (hca _ _ hbw).trans e5⟩) ?_
    clear hca ba
    clear hK K
    (try simp only [Act.put, List.setIfInBounds_toArray, List.set_cons_zero, List.set_cons_succ])
    refine wpG_one 9 rfl (by kernel_rfl) (fun K hK => ?_)
    refine stepR_append_val kndS w1 rfl rfl _ _ rfl 0 (.slice sa' k sc') k _ rfl (CP.out.o.s.below Q1.out).row #[.int .i64 (x.sQ k).p, .slice ra1 (x.sQ k).rs.length rc1, .slice oa1 (x.sQ k).os.length oc1, .int .i64 (x.sQ k).c] rfl rfl (by intro u hu; simp at hu; rcases hu with rfl | rfl | rfl | rfl <;> rfl) (by omega) (Nat.zero_le _) ?_
    intro v3 w3 o3 g3 q3 n3
    obtain ⟨a3, c3, rfl⟩ := ownsRow_slice o3
    have hk3 : ∀ b, b < wr.heap.size → (b < W2.heap.size ∨ b = N) → w3.heap[b]? = w1.heap[b]? := fun b h1 h2 => g3.block b (Nat.lt_of_lt_of_le h1 Q1.out.size) fun e => by
     have := HSA.out b e.symm
     omega
    have hc3 : ∀ b o, b < wr.heap.size → (b < W2.heap.size ∨ b = N) → w3.cell? ⟨b, o, none⟩ = w1.cell? ⟨b, o, none⟩ := fun b o h1 h2 => World.cell?_of_block (hk3 b h1 h2)
    have hHeld := And.intro ((hc3 _ _ hN (.inr rfl)).trans e0) (And.intro ((hc3 _ _ hb0w (.inl hl0)).trans e1) (And.intro ((hc3 _ _ hbw (.inl (by omega))).trans e2) (And.intro ((hc3 _ _ hbw (.inl (by omega))).trans e3) (And.intro ((hc3 _ _ hbw (.inl (by omega))).trans e4) ((hc3 _ _ hbw (.inl (by omega))).trans e5)))))
    have hfN : ∀ j, w3.frozen? ⟨N, j, none⟩ = false := fun j => (World.frozen?_of_block (hk3 N hN (.inr rfl))).trans (((bcell Q1.out).2 N j hN).trans (xf j))
    have CN : Hid (CpB W2.heap.size N (rcol c wr.heap.size 2) x.y (k + 1) 0 (w3.setCell ⟨N, 1, none⟩ (.slice a3 (k + 1) c3)) vp (.slice a3 (k + 1) c3) (.slice none 0 0) vh up (fun j => if j = k then stV (x.sQ k).p ra1 (x.sQ k).rs.length rc1 oa1 (x.sQ k).os.length oc1 (x.sQ k).c else us j) (fun _ => (.slice none 0 0)) uh) := CP.out.state Q1.out O1.out o3 g3 q3
    have BN : Hid (Below W2.heap.size W2 (w3.setCell ⟨N, 1, none⟩ (.slice a3 (k + 1) c3))) := (Below.grown (BZ.out.trans (Q1.out.mono BZ.out.size)) g3 (Nat.le_trans BZ.out.size Q1.out.size) (fun j hj => (HSA.out j hj).1)).setCell CP.out.bN _
    refine hK.out _ _ (fun _ => hHeld) ?_
    clear o3 g3 q3 n3 hk3 hc3
    clear hK K
    (try simp only [Act.put, List.setIfInBounds_toArray, List.set_cons_zero, List.set_cons_succ])
    refine wpG_k 10 rfl hHeld ?_
    refine wpG_one 11 rfl (by kernel_rfl) (fun K hK => ?_)
    have hcN := hHeld.1
    have hfN1 := hfN 1
    go_simp
    refine hK.out _ _ (fun h => ?_) ?_
    ·exact absurd h (by decide)
    clear hK K
    (try simp only [Act.put])
    refine wpG_done (by kernel_rfl) ?_ _
    go_wp2
    go_roundw
    case rel => exact ⟨k + 1, by omega, by go_num, ⟨_, _, _, _, _, _, _, CN.out⟩, BN.out⟩
    case measure => simp [intOf]; omega
   ·have hkn : k = x.sn := by omega
    subst hkn
    have hsb : ∀ wx, Below W2.heap.size W2 wx → wx.cell? ⟨w.heap.size, 1, none⟩ = some (.slice x.sa x.sn x.sc) := fun wx hb => (NB.out.below hb).2.1
    have b1 := hsb wr HZ.out.2
    clear hsb
    go_wp2_with fail
    clear b1
    go_loopw [5] (fun i wr => ∃ k : Nat, k ≤ x.wn ∧ i = .int .i64 k ∧ Hid ((∃ c vp vs vw vh up us uw uh, CpB W2.heap.size N c x.y x.sn k wr vp vs vw vh up us uw uh) ∧ Below W2.heap.size W2 wr)) (fun i _ => x.wn - (intOf i).toNat)
    case atStart =>
     obtain ⟨⟨c, vp, vs, vh, up, us, uh, cp⟩, bz⟩ := HZ.out
     exact ⟨0, Nat.zero_le _, rfl, ⟨c, vp, vs, _, vh, up, us, _, uh, cp⟩, bz⟩
    case round =>
     clear HZ hlt hk
     obtain ⟨k, hk, rfl, HZ⟩ := hrel
     by_cases hlt : k < x.wn
     ·have hlt' : (k : Int) < (x.wn : Int) := by omega
      obtain ⟨⟨c, vp, vs, vw, vh, up, us, uw, uh, cp⟩, bz⟩ := HZ.out
      obtain ⟨wa', wc', rfl⟩ := ownsRow_slice cp.o.t.row
      obtain ⟨x0, x1, x2, x3⟩ := cp.bx
      have xf := cp.fr
      have hN := cp.lt
      obtain ⟨b0, b1, b2, b3⟩ := NB.out.below bz
      obtain ⟨bq, oq, es, s0⟩ := (HG.out.below (BW.out.trans (bz.mono BW.out.size))).w.at hlt
      have hbs : bq < w.heap.size := by
       obtain ⟨bs', os', es', s0'⟩ := HG.out.w.at hlt
       rw [es] at es'
       cases es'
       exact World.block_lt_of_cell? w _ s0'
      have hsr := srcT ((HG.out.below (BW.out.trans (bz.mono BW.out.size))).wi k hlt)
      have HLk := HL.out.w.2 k hlt
      rw [es] at b2
      have CP : Hid (CpB W2.heap.size N c x.y x.sn k wr vp vs (.slice wa' k wc') vh up us uw uh) := cp
      have LSt : Hid (Src wr (x.wA k) (fT (x.wH k) (x.wL k))) := hsr
      have BZ : Hid (Below W2.heap.size W2 wr) := bz
      have hbw : bq < wr.heap.size := by have := bz.size; omega
      have hb0w : w.heap.size < wr.heap.size := by have := bz.size; omega
      have HSA : Hid (∀ j, (Value.slice wa' k wc').ownBlock = some j → W2.heap.size ≤ j ∧ j ≠ N) := fun j hj => ⟨(cp.o.t.rb j hj).1, fun e => by
       have h2 := (cp.o.t.rb j hj).2
       rw [e, cp.cN] at h2
       cases h2⟩
      clear cp bz hsr HZ es
      go_wp2_with fail
      refine wp_region_G (fun w' => w'.cell? ⟨N, 2, none⟩ = some (.slice wa' k wc') ∧ w'.cell? ⟨w.heap.size, 2, none⟩ = some (.slice (some ⟨bq, oq, none⟩) x.wn x.wc) ∧ w'.cell? ⟨bq, oq + k, none⟩ = some (.slice (x.wA k) (x.wL k) (x.wC k))) (fun i => i == 12) (by kernel_rfl) ?_
      have hHeld := And.intro x2 (And.intro b2 s0)
      refine wpGT_of [0,1,3,4,5,6,7] ?_
      iterate 7 (refine wpGT_k rfl hHeld ?_)
      refine wpGT_nil ?_
      refine wpG_one 2 rfl (by kernel_rfl) (fun K hK => ?_)
      go_simp
      have ba : Below wr.drew.heap.size wr.drew (wr.drew.alloc (.cells #[] 95)) := below_allocL wr.drew _
      have hHeld1 : (fun w' => w'.cell? ⟨N, 2, none⟩ = some (.slice wa' k wc') ∧ w'.cell? ⟨w.heap.size, 2, none⟩ = some (.slice (some ⟨bq, oq, none⟩) x.wn x.wc) ∧ w'.cell? ⟨bq, oq + k, none⟩ = some (.slice (x.wA k) (x.wL k) (x.wC k))) (wr.drew.alloc (.cells #[] 95)) := ⟨((bcell ba).1 _ _ hN).trans x2, ((bcell ba).1 _ _ hb0w).trans b2, ((bcell ba).1 _ _ hbw).trans s0⟩
      refine hK.out _ _ (fun _ => hHeld1) ?_
      clear hHeld ba
      clear hK K
      (try simp only [Act.put, List.setIfInBounds_toArray, List.set_cons_zero, List.set_cons_succ])
      refine wpG_one 8 rfl (by kernel_rfl) (fun K hK => ?_)
      refine stepR_append_srcN kndT wr.drew rfl rfl _ _ rfl (x.wA k) (x.wL k) (x.wC k) (fT (x.wH k) (x.wL k)) rfl rfl (fT_len _ _) LSt.out (fT_one _ _) (Nat.le_trans HLk (by omega)) ?_
      intro v1 w1 o1 d1' n1
      obtain ⟨a1, c1, rfl⟩ := ownsRow_slice o1
      have q1 : Below wr.heap.size wr w1 := (Below.refl wr.heap.size wr).drew.trans d1'
      have O1 : Hid (w1.ownsRow wr.heap.size 95 2 (.slice a1 (x.wL k) c1) (x.wL k) (fT (x.wH k) (x.wL k)) ∧ Value.slice a1 (x.wL k) c1 ≠ .slice none 0 0) := ⟨o1, n1⟩
      have hc1 : ∀ b o, b < wr.heap.size → w1.cell? ⟨b, o, none⟩ = wr.cell? ⟨b, o, none⟩ := fun b o h => (bcell q1).1 b o h
      have hHeld2 := And.intro ((hc1 _ _ hN).trans x2) (And.intro ((hc1 _ _ hb0w).trans b2) ((hc1 _ _ hbw).trans s0))
      have Q1 : Hid (Below wr.heap.size wr w1) := q1
      refine hK.out _ _ (fun _ => hHeld2) ?_
      clear hHeld1 o1 d1' q1 hc1 n1
      clear hK K
      (try simp only [Act.put, List.setIfInBounds_toArray, List.set_cons_zero, List.set_cons_succ])
      refine wpG_one 9 rfl (by kernel_rfl) (fun K hK => ?_)
      go_simp
      have ba := below_allocL w1 (.cells #[.slice a1 (x.wL k) c1] 93)
      have hca : ∀ b o, b < wr.heap.size → (w1.alloc (.cells #[.slice a1 (x.wL k) c1] 93)).cell? ⟨b, o, none⟩ = w1.cell? ⟨b, o, none⟩ := fun b o h => (bcell ba).1 b o (Nat.lt_of_lt_of_le h Q1.out.size)
      obtain ⟨e0, e1, e2⟩ := hHeld2
      refine hK.out _ _ (fun _ => ⟨(hca _ _ hN).trans e0, (hca _ _ hb0w).trans e1, (hca _ _ hbw).trans e2⟩) ?_
      clear hca ba
      clear hK K
      (try simp only [Act.put, List.setIfInBounds_toArray, List.set_cons_zero, List.set_cons_succ])
      refine wpG_one 10 rfl (by kernel_rfl) (fun K hK => ?_)
      refine stepR_append_val kndTT w1 rfl rfl _ _ rfl 0 (.slice wa' k wc') k _ rfl (CP.out.o.t.below Q1.out).row #[.slice a1 (x.wL k) c1] rfl rfl (by intro u hu; simp at hu; subst hu; rfl) (by omega) (Nat.zero_le _) ?_
      intro v3 w3 o3 g3 q3 n3
      obtain ⟨a3, c3, rfl⟩ := ownsRow_slice o3
      have hk3 : ∀ b, b < wr.heap.size → (b < W2.heap.size ∨ b = N) → w3.heap[b]? = w1.heap[b]? := fun b h1 h2 => g3.block b (Nat.lt_of_lt_of_le h1 Q1.out.size) fun e => by
       have := HSA.out b e.symm
       omega
      have hc3 : ∀ b o, b < wr.heap.size → (b < W2.heap.size ∨ b = N) → w3.cell? ⟨b, o, none⟩ = w1.cell? ⟨b, o, none⟩ := fun b o h1 h2 => World.cell?_of_block (hk3 b h1 h2)
      have hHeld := And.intro ((hc3 _ _ hN (.inr rfl)).trans e0) (And.intro ((hc3 _ _ hb0w (.inl hl0)).trans e1) ((hc3 _ _ hbw (.inl (by omega))).trans e2))
      have hfN : ∀ j, w3.frozen? ⟨N, j, none⟩ = false := fun j => (World.frozen?_of_block (hk3 N hN (.inr rfl))).trans (((bcell Q1.out).2 N j hN).trans (xf j))
      have CN : Hid (CpB W2.heap.size N (rcol c wr.heap.size 3) x.y x.sn (k + 1) (w3.setCell ⟨N, 2, none⟩ (.slice a3 (k + 1) c3)) vp vs (.slice a3 (k + 1) c3) vh up us (fun j => if j = k then .slice a1 (x.wL k) c1 else uw j) uh) := CP.out.way Q1.out O1.out.1 O1.out.2 o3 g3 q3
      have BN : Hid (Below W2.heap.size W2 (w3.setCell ⟨N, 2, none⟩ (.slice a3 (k + 1) c3))) := (Below.grown (BZ.out.trans (Q1.out.mono BZ.out.size)) g3 (Nat.le_trans BZ.out.size Q1.out.size) (fun j hj => (HSA.out j hj).1)).setCell CP.out.bN _
      refine hK.out _ _ (fun _ => hHeld) ?_
      clear o3 g3 q3 n3 hk3 hc3
      clear hK K
      (try simp only [Act.put, List.setIfInBounds_toArray, List.set_cons_zero, List.set_cons_succ])
      refine wpG_k 11 rfl hHeld ?_
      refine wpG_one 12 rfl (by kernel_rfl) (fun K hK => ?_)
      have hcN := hHeld.1
      have hfN1 := hfN 2
      go_simp
      refine hK.out _ _ (fun h => ?_) ?_
      ·exact absurd h (by decide)
      clear hK K
      (try simp only [Act.put])
      refine wpG_done (by kernel_rfl) ?_ _
      go_wp2
      go_roundw
      case rel => exact ⟨k + 1, by omega, by go_num, ⟨_, _, _, _, _, _, _, _, _, CN.out⟩, BN.out⟩
      case measure => simp [intOf]; omega
     ·have hkn : k = x.wn := by omega
      subst hkn
      obtain ⟨⟨c, vp, vs, vw, vh, up, us, uw, uh, cp⟩, bz⟩ := HZ.out
      obtain ⟨pa', pc', rfl⟩ := ownsRow_slice cp.o.p.row
      obtain ⟨sa', sc', rfl⟩ := ownsRow_slice cp.o.s.row
      obtain ⟨wa', wc', rfl⟩ := ownsRow_slice cp.o.t.row
      obtain ⟨ha', hc', rfl⟩ := ownsRow_slice cp.o.h.row
      obtain ⟨x0, x1, x2, x3⟩ := cp.bx
      replace x0 : wr.cell? ⟨N, 0, none⟩ = some (.slice pa' x.pn pc') := x0
      replace x3 : wr.cell? ⟨N, 3, none⟩ = some (.slice ha' x.hn hc') := x3
      obtain ⟨r0, r1, r2, r3⟩ := RB.out.1.below bz
      obtain ⟨-, -, b2, -⟩ := NB.out.below bz
      have rf : ∀ j, wr.frozen? ⟨w.heap.size + 1, j, none⟩ = false := fun j => ((bcell bz).2 _ _ hl1).trans (RB.out.2 j)
      have HO : Hid (OwnS true wr W2.heap.size c x.y (.slice pa' x.pn pc') (.slice sa' x.sn sc') (.slice wa' x.wn wc') (.slice ha' x.hn hc') up us uw uh) := cp.o
      have BE : Hid (Below w.heap.size w wr) := BW.out.trans (bz.mono BW.out.size)
      have HO2 : Hid (∀ W9 : World, (∀ k, w.heap.size + 1 < k → W9.heap[k]? = wr.heap[k]?) → OwnSys true W9 w.heap.size x.y (sysV pa' x.pn pc' sa' x.sn sc' wa' x.wn wc' ha' x.hn hc')) := fun W9 hk9 => by
       have hm : ∀ i k, Cl W2.heap.size c i k → k < wr.heap.size → Cl w.heap.size c i k := fun i k h _ => ⟨by have := h.1; omega, h.2⟩
       have hq : ∀ i k, Cl W2.heap.size c i k → k < wr.heap.size → W9.heap[k]? = wr.heap[k]? := fun i k h _ => hk9 k (by have := h.1; omega)
       have hm9 : ∀ i k, Cl W2.heap.size c i k → k < W9.heap.size → Cl w.heap.size c i k := fun i k h _ => ⟨by have := h.1; omega, h.2⟩
       exact ⟨c, _, _, _, _, up, us, uw, uh, rfl, ⟨(HO.out.p.keep (hq 1)).mono (hm9 1), (HO.out.s.keep (hq 2)).mono (hm9 2), (HO.out.t.keep (hq 3)).mono (hm9 3), (HO.out.h.keep (hq 4)).mono (hm9 4)⟩⟩
      clear HZ cp bz HO RB NB HG
      go_wp2
      refine bodyPost_ret (v := sysV pa' x.pn pc' sa' x.sn sc' wa' x.wn wc' ha' x.hn hc') (by simp [results, Tryz.results29, go_sem, r0, r1, r2, r3]) rfl ⟨_, rfl, HO2.out _ ?_, ?_⟩
      ·intro k hk
       repeat (rw [Below.heap_setCell _ _ _ _ (by simp; omega)])
      ·have := BE.out
       go_grown
def Sy.nk (y : Sy) (p : Nat) : Int := nxK (y.pH p) (y.pL p) (y.sS p).p (y.sS p).rs (y.sS p).os (y.sS p).c
def Sy.nq (y : Sy) (p : Nat) : Int := nxP (y.pH p) (y.pL p) (y.sS p).p (y.sS p).rs (y.sS p).os (y.sS p).c
def Sy.nv (y : Sy) (p : Nat) : Int := nxW (y.pH p) (y.pL p) (y.sS p).p (y.sS p).rs (y.sS p).os (y.sS p).c
def tkS (y : Sy) (p : Nat) (f : Int) : Int := if belB f y.pn = true then (if y.wL (f.toNat * y.pn + p) = 0 then 3 else if (y.wH (f.toNat * y.pn + p) 0).m = true then 5 else 0) else 2
def fuS (y : Sy) (p : Nat) (k q : Int) : Bool := decide (200 ≤ y.hL p) || (k == 2 && decide (12 ≤ y.wL (p * y.pn + q.toNat)))
def cmS (y : Sy) (p : Nat) (f : Int) : Int := if (y.sS p).c ≠ 0 then 6 else if fuS y p (y.nk p) (y.nq p) = true then 4 else if y.nk p = 3 then tkS y p (if y.nq p = 9 then f else y.nq p) else 0
theorem rp_okS {g : Nat → I5} {n : Nat} {eh : Nat → E3} (hp : progOkB g n 4 = true) : ∀ k S, rp g n eh k = some S → OkS n S
 | 0, S, h => by
  simp only [rp, Option.some.injEq] at h
  subst h
  exact newS_ok hp
 | k + 1, S, h => by
  simp only [rp] at h
  cases hr : rp g n eh k with
  | none => rw [hr] at h; cases h
  | some S0 =>
   rw [hr] at h
   simp only [Option.bind_some, rpStep] at h
   split at h
   ·rename_i hd
    simp only [Option.some.injEq] at h
    subst h
    exact doS_ok hd
   ·cases h
theorem Sy.Ok.four {y : Sy} (h : y.Ok) {p : Nat} (hp : p < y.pn) : progOkB (y.pH p) (y.pL p) 4 = true := (repO_some (h.rp p hp)).1
theorem Sy.Ok.le200 {y : Sy} (h : y.Ok) {p : Nat} (hp : p < y.pn) : y.hL p ≤ 200 := (repO_some (h.rp p hp)).2.1
theorem Sy.Ok.st {y : Sy} (h : y.Ok) {p : Nat} (hp : p < y.pn) : OkS (y.pL p) (y.sS p) := rp_okS (h.four hp) _ _ (repO_some (h.rp p hp)).2.2
theorem Sy.Ok.right {y : Sy} (h : y.Ok) {p : Nat} (hp : p < y.pn) (hc : (y.sS p).c = 0) : rightB (y.pH p) (y.pL p) (y.sS p).p (y.sS p).rs (y.sS p).os 0 = true := by
 have := right_of (h.four hp) (h.st hp) hc
 rwa [hc] at this
theorem Sy.Ok.peer {y : Sy} (h : y.Ok) {p : Nat} (hp : p < y.pn) (hk : y.nk p = 2) : 0 ≤ y.nq p ∧ y.nq p < y.pn := by
 unfold Sy.nk nxK at hk
 unfold Sy.nq nxP
 by_cases hr : rightB (y.pH p) (y.pL p) (y.sS p).p (y.sS p).rs (y.sS p).os (y.sS p).c = true
 ·rw [if_pos hr] at hk ⊢
  obtain ⟨-, h4, -⟩ := right_parts hr
  obtain ⟨-, ⟨k, ek, hkl⟩, -⟩ := st_parts h4
  have e : (y.sS p).p.toNat = k := by omega
  rw [e] at hk ⊢
  have h5 := right_ins (h.pr p hp) hkl
  simp only [insOkB, Bool.and_eq_true] at h5
  have h6 := h5.2
  have e6 : (y.pH p k).o = 6 := by
   unfold evK at hk
   by_cases e6 : (y.pH p k).o = 6
   ·exact e6
   ·rw [if_neg e6] at hk
    split at hk
    ·cases hk
    ·split at hk <;> cases hk
  rw [evP, if_pos e6]
  simp [opOkB, e6, inB] at h6
  omega
 ·rw [if_neg hr] at hk
  cases hk
theorem Sy.Ok.way {y : Sy} (h : y.Ok) {a b : Nat} (ha : a < y.pn) (hb : b < y.pn) : y.wL (a * y.pn + b) ≤ 12 := (h.wa a ha b hb).le
variable {z : Bool}
def Sy.setW (y : Sy) (i m : Nat) (H : Nat → I2) : Sy := { y with wL := fun j => if j = i then m else y.wL j, wH := fun j => if j = i then H else y.wH j }
def Sy.setH (y : Sy) (i m : Nat) (H : Nat → E3) : Sy := { y with hL := fun j => if j = i then m else y.hL j, hH := fun j => if j = i then H else y.hH j }
def Sy.setS (y : Sy) (i : Nat) (T : S4) : Sy := { y with sS := fun j => if j = i then T else y.sS j }
def Sy.way (y : Sy) (p : Nat) (k q v : Int) : Sy :=
 { y with
  wL := if k = 2 then fun j => if j = p * y.pn + q.toNat then y.wL (p * y.pn + q.toNat) + 1 else y.wL j
   else if k = 3 then fun j => if j = q.toNat * y.pn + p then y.wL (q.toNat * y.pn + p) - 1 else y.wL j else y.wL
  wH := if k = 2 then fun j => if j = p * y.pn + q.toNat then (fun i => if i = y.wL (p * y.pn + q.toNat) then ⟨false, v⟩ else y.wH (p * y.pn + q.toNat) i) else y.wH j
   else if k = 3 then fun j => if j = q.toNat * y.pn + p then (fun i => y.wH (q.toNat * y.pn + p) (i + 1)) else y.wH j else y.wH }
theorem Sy.way_send (y : Sy) (p q : Nat) (v : Int) : y.way p 2 q v = y.setW (p * y.pn + q) (y.wL (p * y.pn + q) + 1) (fun i => if i = y.wL (p * y.pn + q) then ⟨false, v⟩ else y.wH (p * y.pn + q) i) := by
 simp [Sy.way, Sy.setW]
theorem Sy.way_take (y : Sy) (p q : Nat) (v : Int) : y.way p 3 q v = y.setW (q * y.pn + p) (y.wL (q * y.pn + p) - 1) (fun i => y.wH (q * y.pn + p) (i + 1)) := by
 simp [Sy.way, Sy.setW]
theorem Sy.way_no (y : Sy) (p : Nat) {k : Int} (h2 : k ≠ 2) (h3 : k ≠ 3) (q v : Int) : y.way p k q v = y := by
 simp [Sy.way, h2, h3]
def Sy.evt (y : Sy) (p : Nat) (k q v : Int) : Sy :=
 (y.setS p (doS (y.pH p) (y.pL p) (y.sS p).p (y.sS p).rs (y.sS p).os (y.sS p).c k q v)).setH p (y.hL p + 1) (fun i => if i = y.hL p then ⟨k, q, v⟩ else y.hH p i)
def Sy.eq (y : Sy) (p : Nat) (f : Int) : Int := if y.nk p = 3 then (if y.nq p = 9 then f else y.nq p) else y.nq p
def Sy.ev (y : Sy) (p : Nat) (f : Int) : Int := if y.nk p = 3 then (y.wH ((y.eq p f).toNat * y.pn + p) 0).v else y.nv p
def Sy.step (y : Sy) (p : Nat) (f : Int) : Sy := if cmS y p f = 0 then (y.way p (y.nk p) (y.eq p f) (y.ev p f)).evt p (y.nk p) (y.eq p f) (y.ev p f) else y
variable {z : Bool}
def adOf : Value → Option Addr
 | .slice a _ _ => a
 | _ => none
def cpOf : Value → Nat
 | .slice _ _ c => c
 | _ => 0
def fdOf (v : Value) (i : Nat) : Value := (cellsL v).getD i (.slice none 0 0)
def Sy.sysIn (y : Sy) (vp vs vw vh : Value) (up us uw uh : Nat → Value) : SysIn :=
 ⟨adOf vp, y.pn, cpOf vp, fun i => adOf (up i), y.pL, fun i => cpOf (up i), y.pH,
  adOf vs, y.sn, cpOf vs, fun i => ⟨(y.sS i).p, adOf (fdOf (us i) 1), cpOf (fdOf (us i) 1), (y.sS i).rs, adOf (fdOf (us i) 2), cpOf (fdOf (us i) 2), (y.sS i).os, (y.sS i).c⟩,
  adOf vw, y.wn, cpOf vw, fun i => adOf (uw i), y.wL, fun i => cpOf (uw i), y.wH,
  adOf vh, y.hn, cpOf vh, fun i => adOf (uh i), y.hL, fun i => cpOf (uh i), y.hH⟩
theorem sl_v {w : World} {B : Nat} {e : TypeId} {sz n : Nat} {v : Value} {xs : List Value} (o : w.ownsRow B e sz v n xs) : v = .slice (adOf v) n (cpOf v) := by
 obtain ⟨a, c, rfl⟩ := ownsRow_slice o
 rfl
theorem OwnS.v {w : World} {B : Nat} {c : Nat → Nat} {y : Sy} {vp vs vw vh : Value} {up us uw uh : Nat → Value} (o : OwnS z w B c y vp vs vw vh up us uw uh) : (y.sysIn vp vs vw vh up us uw uh).v = .agg #[vp, vs, vw, vh] := by
 have e1 := sl_v o.p.row
 have e2 := sl_v o.s.row
 have e3 := sl_v o.t.row
 have e4 := sl_v o.h.row
 conv => rhs; rw [e1, e2, e3, e4]
 rfl
variable {z : Bool}
theorem run_make_kind {t e : TypeId} {bytes : Nat} (K : Kind t e 1 bytes) (n : Nat) (hn : n ≤ 1048576) : ∃ cs : Array Value, cs.size = n ∧ ∀ w : World, (Instr.makeSlice t (.int .i64 0) (.int .i64 (n : Int))).run Tryz.prog w = .ok (.slice (some ⟨w.heap.size, 0, none⟩) 0 n) (w.alloc (.cells cs e)) := by
 obtain ⟨i, z, hi, hz, hs, hb, hzs⟩ := K.inf
 refine ⟨madeCells z.cells n, size_madeCells _ _, fun w => ?_⟩
 have hby : i.bytes * n ≤ 281474976710656 := by
  rw [hb]
  exact Nat.le_trans (Nat.mul_le_mul K.sml hn) (by omega)
 have hby' : (i.bytes : Int) * (n : Int) ≤ 281474976710656 := by rw [← Int.natCast_mul]; exact Int.ofNat_le.2 hby
 have h := run_make (P := Tryz.prog) w t e i z K.und hi hz .i64 .i64 0 (n : Int) (by omega) (by omega) hby' (by omega)
 rw [hs, Nat.mul_one, Int.toNat_natCast] at h
 exact h
theorem LL.made (e : TypeId) (sz : Nat) (E : TypeId) (w : World) (cs : Array Value) (n : Nat) (hn : n ≤ 1048576) (hc : cs.size = n) (P : Nat → Prop) (hP : P w.heap.size) (u : Nat → Value) (L : Nat → Nat) (c : Nat → List Value) : LL z e sz E (w.alloc (.cells cs E)) P (.slice (some ⟨w.heap.size, 0, none⟩) 0 n) 0 u L c :=
 ⟨World.ownsRow_made (base := 0) (e := E) (size := 1) w cs n (Nat.zero_le _) (by unfold maxLen; omega) (by rw [hc, Nat.mul_one]), fun i hi => (by omega), fun k hk => (by cases hk; exact hP), fun i hi => (by omega), fun i hi => (by omega), fun i j hi => (by omega), fun i hi => (by omega)⟩
theorem cloneIns_own (b off n cap : Nat) (H : Nat → I5) (w : World) (hn : n ≤ 1048576) (hI : Src w (some ⟨b, off, none⟩) (fI H n)) :
  Calls Tryz.prog 175 #[.slice (some ⟨b, off, none⟩) n cap] w fun e w' => ∃ a c, e = .returned (.slice a n c) ∧ w'.ownsRow w.heap.size 149 5 (.slice a n c) n (fI H n) ∧ Value.slice a n c ≠ .slice none 0 0 ∧ Below w.heap.size w w' := by
 have HI : Hid (Src w (some ⟨b, off, none⟩) (fI H n)) := hI
 have he : ∀ wx : World, (binOp .eql 122 (.slice (some ⟨b, off, none⟩) n cap) (.slice none 0 0)).run Tryz.prog wx = .ok (.bool false) wx := fun wx => by kernel_rfl
 clear hI
 go_enter Tryz.func175, Tryz.ntmps175
 go_wp2_with (at_builtin; refine step_append_srcN kndI w rfl rfl _ _ rfl (some ⟨b, off, none⟩) n cap (fI H n) rfl rfl (fI_len _ _) HI.out (fI_one _ _) (by omega) ?_; intro v4 w4 o4 b4 n4; obtain ⟨a4, c4, rfl⟩ := ownsRow_slice o4; have F4 : Hid (w4.ownsRow w.heap.size 149 5 (.slice a4 n c4) n (fI H n) ∧ Value.slice a4 n c4 ≠ .slice none 0 0 ∧ Below w.heap.size w w4) := ⟨o4, n4, b4⟩; clear o4 b4 n4)
 go_ret
 exact ⟨_, _, rfl, F4.out⟩
theorem copyListsIns_own (a0 : Option Addr) (n cap : Nat) (A : Nat → Option Addr) (L C : Nat → Nat) (H : Nat → Nat → I5) (w : World) (hn : n ≤ 1048576) (hL : ∀ i, i < n → L i ≤ 1048576) (hr : RowS w a0 n fun i => .slice (A i) (L i) (C i)) (hI : ∀ i, i < n → ∃ b off, A i = some ⟨b, off, none⟩ ∧ Src w (A i) (fI (H i) (L i))) :
  Calls Tryz.prog 96 #[.slice a0 n cap] w fun e w' => ∃ v u, e = .returned v ∧ LI z w' (fun k => w.heap.size ≤ k ∧ k < w'.heap.size) v n u L H ∧ Below w.heap.size w w' := by
 have hn' : (n : Int) ≤ 1048576 := by omega
 obtain ⟨cs, hcs, hmk⟩ := run_make_kind kndII n hn
 have HCS : Hid (cs.size = n) := hcs
 have HR : Hid (RowS w a0 n fun i => .slice (A i) (L i) (C i)) := hr
 have HI : Hid (∀ i, i < n → ∃ b off, A i = some ⟨b, off, none⟩ ∧ Src w (A i) (fI (H i) (L i))) := hI
 have HL : Hid (∀ i, i < n → L i ≤ 1048576) := hL
 clear hr hI hL hcs
 go_enter Tryz.func96, Tryz.ntmps96
 go_wp2_with fail
 clear hmk
 go_loopw [3, 11] (fun v i wr => ∃ k : Nat, k ≤ n ∧ i = .int .i64 k ∧ Hid ((∃ u, LI z wr (fun b => w.heap.size ≤ b ∧ b < wr.heap.size) v k u L H) ∧ Below w.heap.size w wr)) (fun _ i _ => n - (intOf i).toNat)
 case atStart => exact ⟨0, Nat.zero_le _, rfl, ⟨fun _ => .slice none 0 0, LL.made _ _ _ w _ n hn HCS.out _ (by simp) _ _ _⟩, below_allocL _ _⟩
 case round =>
  obtain ⟨k, hk, rfl, HZ⟩ := hrel
  by_cases hlt : k < n
  ·have hlt' : (k : Int) < (n : Int) := by omega
   obtain ⟨b, off, rfl, ck⟩ := (HR.out.below HZ.out.2).at hlt
   have hbl : b < wr.heap.size := World.block_lt_of_cell? wr _ ck
   obtain ⟨b2, o2, ea, hsr⟩ := HI.out k hlt
   rw [ea] at hsr ck
   have HS : Hid (Src wr (some ⟨b2, o2, none⟩) (fI (H k) (L k))) := hsr.below HZ.out.2
   have HLk : Hid (L k ≤ 1048576) := HL.out k hlt
   have hk2 : Hid (k ≤ 2000000) := by show k ≤ 2000000; omega
   obtain ⟨⟨u, oz⟩, bz⟩ := HZ.out
   have OZ : Hid (LI z wr (fun b => w.heap.size ≤ b ∧ b < wr.heap.size) u3 k u L H) := oz
   have BZ : Hid (Below w.heap.size w wr) := bz
   clear oz bz HZ hsr ea
   go_wp2_with fail
   refine (cloneIns_own b2 o2 (L k) (C k) (H k) wr HLk.out HS.out).mono ?_
   rintro e w4 ⟨a4, c4, rfl, o4, n4, b4⟩
   have F4 : Hid (w4.ownsRow wr.heap.size 149 5 (.slice a4 (L k) c4) (L k) (fI (H k) (L k)) ∧ Below wr.heap.size wr w4 ∧ Value.slice a4 (L k) c4 ≠ .slice none 0 0) := ⟨o4, b4, n4⟩
   clear o4 b4 n4 ck hbl
   go_wp2_with (at_builtin; refine step_append_val kndII w4 rfl rfl _ _ rfl 0 u3 k _ rfl (OZ.out.below F4.out.2.1).row #[.slice a4 (L k) c4] rfl rfl (by intro u hu; simp at hu; subst hu; rfl) hk2.out (Nat.zero_le _) ?_; intro v5 w5 o5 g5 q5 n5; have F5 : Hid (LI z w5 (fun b => w.heap.size ≤ b ∧ b < w5.heap.size) v5 (k + 1) (fun j => if j = k then .slice a4 (L k) c4 else u j) L H ∧ Below w.heap.size w w5) := ⟨OZ.out.push F4.out.2.1 F4.out.1 (fun _ => F4.out.2.2) o5 g5 q5 (fun j hj _ => ⟨hj.1, Nat.lt_of_lt_of_le hj.2 (Nat.le_trans F4.out.2.1.size g5.size)⟩) (fun j hj hj' => ⟨Nat.le_trans BZ.out.size hj, hj'⟩), Below.grown (BZ.out.trans (F4.out.2.1.mono BZ.out.size)) g5 (Nat.le_trans BZ.out.size F4.out.2.1.size) (fun j hj => (OZ.out.rb j hj).1)⟩; clear o5 g5 q5 n5)
   go_roundw
   case rel => exact ⟨k + 1, by omega, by go_num, ⟨_, F5.out.1⟩, F5.out.2⟩
   case measure => simp [intOf]; omega
  ·have hkn : k = n := by omega
   subst hkn
   go_wp2
   go_ret
   obtain ⟨⟨u, oz⟩, bz⟩ := HZ.out
   exact ⟨_, u, rfl, oz, bz⟩
theorem cloneItem_own (b off n cap : Nat) (H : Nat → I2) (w : World) (hn : n ≤ 1048576) (hI : Src w (some ⟨b, off, none⟩) (fT H n)) :
  Calls Tryz.prog 142 #[.slice (some ⟨b, off, none⟩) n cap] w fun e w' => ∃ a c, e = .returned (.slice a n c) ∧ w'.ownsRow w.heap.size 95 2 (.slice a n c) n (fT H n) ∧ Value.slice a n c ≠ .slice none 0 0 ∧ Below w.heap.size w w' := by
 have HI : Hid (Src w (some ⟨b, off, none⟩) (fT H n)) := hI
 have he : ∀ wx : World, (binOp .eql 93 (.slice (some ⟨b, off, none⟩) n cap) (.slice none 0 0)).run Tryz.prog wx = .ok (.bool false) wx := fun wx => by kernel_rfl
 clear hI
 go_enter Tryz.func142, Tryz.ntmps142
 go_wp2_with (at_builtin; refine step_append_srcN kndT w rfl rfl _ _ rfl (some ⟨b, off, none⟩) n cap (fT H n) rfl rfl (fT_len _ _) HI.out (fT_one _ _) (by omega) ?_; intro v4 w4 o4 b4 n4; obtain ⟨a4, c4, rfl⟩ := ownsRow_slice o4; have F4 : Hid (w4.ownsRow w.heap.size 95 2 (.slice a4 n c4) n (fT H n) ∧ Value.slice a4 n c4 ≠ .slice none 0 0 ∧ Below w.heap.size w w4) := ⟨o4, n4, b4⟩; clear o4 b4 n4)
 go_ret
 exact ⟨_, _, rfl, F4.out⟩
theorem cloneItem_none (w : World) :
  Calls Tryz.prog 142 #[.slice none 0 0] w fun e w' => e = .returned (.slice none 0 0) ∧ Below w.heap.size w w' := by
 have he : ∀ wx : World, (binOp .eql 93 (.slice none 0 0) (.slice none 0 0)).run Tryz.prog wx = .ok (.bool true) wx := fun wx => by kernel_rfl
 go_enter Tryz.func142, Tryz.ntmps142
 go_wp2
 go_ret
 exact ⟨rfl, Below.refl _ _⟩
theorem copyListsItem_own (a0 : Option Addr) (n cap : Nat) (A : Nat → Option Addr) (L C : Nat → Nat) (H : Nat → Nat → I2) (w : World) (hn : n ≤ 1048576) (hL : ∀ i, i < n → L i ≤ 1048576) (hr : RowS w a0 n fun i => .slice (A i) (L i) (C i)) (hI : ∀ i, i < n → (∃ b off, A i = some ⟨b, off, none⟩ ∧ Src w (A i) (fT (H i) (L i))) ∨ (z = false ∧ A i = none ∧ L i = 0 ∧ C i = 0)) :
  Calls Tryz.prog 97 #[.slice a0 n cap] w fun e w' => ∃ v u, e = .returned v ∧ LT z w' (fun k => w.heap.size ≤ k ∧ k < w'.heap.size) v n u L H ∧ Below w.heap.size w w' := by
 have hn' : (n : Int) ≤ 1048576 := by omega
 obtain ⟨cs, hcs, hmk⟩ := run_make_kind kndTT n hn
 have HCS : Hid (cs.size = n) := hcs
 have HR : Hid (RowS w a0 n fun i => .slice (A i) (L i) (C i)) := hr
 have HI : Hid (∀ i, i < n → (∃ b off, A i = some ⟨b, off, none⟩ ∧ Src w (A i) (fT (H i) (L i))) ∨ (z = false ∧ A i = none ∧ L i = 0 ∧ C i = 0)) := hI
 have HL : Hid (∀ i, i < n → L i ≤ 1048576) := hL
 clear hr hI hL hcs
 go_enter Tryz.func97, Tryz.ntmps97
 go_wp2_with fail
 clear hmk
 go_loopw [3, 11] (fun v i wr => ∃ k : Nat, k ≤ n ∧ i = .int .i64 k ∧ Hid ((∃ u, LT z wr (fun b => w.heap.size ≤ b ∧ b < wr.heap.size) v k u L H) ∧ Below w.heap.size w wr)) (fun _ i _ => n - (intOf i).toNat)
 case atStart => exact ⟨0, Nat.zero_le _, rfl, ⟨fun _ => .slice none 0 0, LL.made _ _ _ w _ n hn HCS.out _ (by simp) _ _ _⟩, below_allocL _ _⟩
 case round =>
  obtain ⟨k, hk, rfl, HZ⟩ := hrel
  by_cases hlt : k < n
  ·have hlt' : (k : Int) < (n : Int) := by omega
   obtain ⟨b, off, rfl, ck⟩ := (HR.out.below HZ.out.2).at hlt
   have hbl : b < wr.heap.size := World.block_lt_of_cell? wr _ ck
   rcases HI.out k hlt with ⟨b2, o2, ea, hsr⟩ | ⟨hz, ea, eL, eC⟩
   ·rw [ea] at hsr ck
    have HS : Hid (Src wr (some ⟨b2, o2, none⟩) (fT (H k) (L k))) := hsr.below HZ.out.2
    have HLk : Hid (L k ≤ 1048576) := HL.out k hlt
    have hk2 : Hid (k ≤ 2000000) := by show k ≤ 2000000; omega
    obtain ⟨⟨u, oz⟩, bz⟩ := HZ.out
    have OZ : Hid (LT z wr (fun b => w.heap.size ≤ b ∧ b < wr.heap.size) u3 k u L H) := oz
    have BZ : Hid (Below w.heap.size w wr) := bz
    clear oz bz HZ hsr ea
    go_wp2_with fail
    refine (cloneItem_own b2 o2 (L k) (C k) (H k) wr HLk.out HS.out).mono ?_
    rintro e w4 ⟨a4, c4, rfl, o4, n4, b4⟩
    have F4 : Hid (w4.ownsRow wr.heap.size 95 2 (.slice a4 (L k) c4) (L k) (fT (H k) (L k)) ∧ Below wr.heap.size wr w4 ∧ Value.slice a4 (L k) c4 ≠ .slice none 0 0) := ⟨o4, b4, n4⟩
    clear o4 b4 n4 ck hbl
    go_wp2_with (at_builtin; refine step_append_val kndTT w4 rfl rfl _ _ rfl 0 u3 k _ rfl (OZ.out.below F4.out.2.1).row #[.slice a4 (L k) c4] rfl rfl (by intro u hu; simp at hu; subst hu; rfl) hk2.out (Nat.zero_le _) ?_; intro v5 w5 o5 g5 q5 n5; have F5 : Hid (LT z w5 (fun b => w.heap.size ≤ b ∧ b < w5.heap.size) v5 (k + 1) (fun j => if j = k then .slice a4 (L k) c4 else u j) L H ∧ Below w.heap.size w w5) := ⟨OZ.out.push F4.out.2.1 F4.out.1 (fun _ => F4.out.2.2) o5 g5 q5 (fun j hj _ => ⟨hj.1, Nat.lt_of_lt_of_le hj.2 (Nat.le_trans F4.out.2.1.size g5.size)⟩) (fun j hj hj' => ⟨Nat.le_trans BZ.out.size hj, hj'⟩), Below.grown (BZ.out.trans (F4.out.2.1.mono BZ.out.size)) g5 (Nat.le_trans BZ.out.size F4.out.2.1.size) (fun j hj => (OZ.out.rb j hj).1)⟩; clear o5 g5 q5 n5)
    go_roundw
    case rel => exact ⟨k + 1, by omega, by go_num, ⟨_, F5.out.1⟩, F5.out.2⟩
    case measure => simp [intOf]; omega
   ·rw [ea, eL, eC] at ck
    have HNz : Hid (¬ Nz z 95) := fun h => by
     rcases h with h | h
     ·rw [hz] at h
      cases h
     ·exact absurd h (by decide)
    have hk2 : Hid (k ≤ 2000000) := by show k ≤ 2000000; omega
    obtain ⟨⟨u, oz⟩, bz⟩ := HZ.out
    have OZ : Hid (LT z wr (fun b => w.heap.size ≤ b ∧ b < wr.heap.size) u3 k u L H) := oz
    have BZ : Hid (Below w.heap.size w wr) := bz
    have HE : Hid (L k = 0) := eL
    clear oz bz HZ ea eL eC hz
    go_wp2_with fail
    refine (cloneItem_none wr).mono ?_
    rintro e w4 ⟨rfl, b4⟩
    have F4 : Hid (w4.ownsRow wr.heap.size 95 2 (.slice none 0 0) (L k) (fT (H k) (L k)) ∧ Below wr.heap.size wr w4) := ⟨by rw [HE.out]; exact World.ownsRow_nil _ _ _ _, b4⟩
    clear b4 ck hbl
    go_wp2_with (at_builtin; refine step_append_val kndTT w4 rfl rfl _ _ rfl 0 u3 k _ rfl (OZ.out.below F4.out.2).row #[.slice none 0 0] rfl rfl (by intro u hu; simp at hu; subst hu; rfl) hk2.out (Nat.zero_le _) ?_; intro v5 w5 o5 g5 q5 n5; have F5 : Hid (LT z w5 (fun b => w.heap.size ≤ b ∧ b < w5.heap.size) v5 (k + 1) (fun j => if j = k then .slice none 0 0 else u j) L H ∧ Below w.heap.size w w5) := ⟨OZ.out.push F4.out.2 F4.out.1 (fun h => absurd h HNz.out) o5 g5 q5 (fun j hj _ => ⟨hj.1, Nat.lt_of_lt_of_le hj.2 (Nat.le_trans F4.out.2.size g5.size)⟩) (fun j hj hj' => ⟨Nat.le_trans BZ.out.size hj, hj'⟩), Below.grown (BZ.out.trans (F4.out.2.mono BZ.out.size)) g5 (Nat.le_trans BZ.out.size F4.out.2.size) (fun j hj => (OZ.out.rb j hj).1)⟩; clear o5 g5 q5 n5)
    go_roundw
    case rel => exact ⟨k + 1, by omega, by go_num, ⟨_, F5.out.1⟩, F5.out.2⟩
    case measure => simp [intOf]; omega
  ·have hkn : k = n := by omega
   subst hkn
   go_wp2
   go_ret
   obtain ⟨⟨u, oz⟩, bz⟩ := HZ.out
   exact ⟨_, u, rfl, oz, bz⟩
theorem cloneEvent_own (b off n cap : Nat) (H : Nat → E3) (w : World) (hn : n ≤ 1048576) (hI : Src w (some ⟨b, off, none⟩) (fE H n)) :
  Calls Tryz.prog 176 #[.slice (some ⟨b, off, none⟩) n cap] w fun e w' => ∃ a c, e = .returned (.slice a n c) ∧ w'.ownsRow w.heap.size 106 3 (.slice a n c) n (fE H n) ∧ Value.slice a n c ≠ .slice none 0 0 ∧ Below w.heap.size w w' := by
 have HI : Hid (Src w (some ⟨b, off, none⟩) (fE H n)) := hI
 have he : ∀ wx : World, (binOp .eql 107 (.slice (some ⟨b, off, none⟩) n cap) (.slice none 0 0)).run Tryz.prog wx = .ok (.bool false) wx := fun wx => by kernel_rfl
 clear hI
 go_enter Tryz.func176, Tryz.ntmps176
 go_wp2_with (at_builtin; refine step_append_srcN kndE w rfl rfl _ _ rfl (some ⟨b, off, none⟩) n cap (fE H n) rfl rfl (fE_len _ _) HI.out (fE_one _ _) (by omega) ?_; intro v4 w4 o4 b4 n4; obtain ⟨a4, c4, rfl⟩ := ownsRow_slice o4; have F4 : Hid (w4.ownsRow w.heap.size 106 3 (.slice a4 n c4) n (fE H n) ∧ Value.slice a4 n c4 ≠ .slice none 0 0 ∧ Below w.heap.size w w4) := ⟨o4, n4, b4⟩; clear o4 b4 n4)
 go_ret
 exact ⟨_, _, rfl, F4.out⟩
theorem cloneEvent_none (w : World) :
  Calls Tryz.prog 176 #[.slice none 0 0] w fun e w' => e = .returned (.slice none 0 0) ∧ Below w.heap.size w w' := by
 have he : ∀ wx : World, (binOp .eql 107 (.slice none 0 0) (.slice none 0 0)).run Tryz.prog wx = .ok (.bool true) wx := fun wx => by kernel_rfl
 go_enter Tryz.func176, Tryz.ntmps176
 go_wp2
 go_ret
 exact ⟨rfl, Below.refl _ _⟩
theorem copyListsEvent_own (a0 : Option Addr) (n cap : Nat) (A : Nat → Option Addr) (L C : Nat → Nat) (H : Nat → Nat → E3) (w : World) (hn : n ≤ 1048576) (hL : ∀ i, i < n → L i ≤ 1048576) (hr : RowS w a0 n fun i => .slice (A i) (L i) (C i)) (hI : ∀ i, i < n → (∃ b off, A i = some ⟨b, off, none⟩ ∧ Src w (A i) (fE (H i) (L i))) ∨ (z = false ∧ A i = none ∧ L i = 0 ∧ C i = 0)) :
  Calls Tryz.prog 98 #[.slice a0 n cap] w fun e w' => ∃ v u, e = .returned v ∧ LE z w' (fun k => w.heap.size ≤ k ∧ k < w'.heap.size) v n u L H ∧ Below w.heap.size w w' := by
 have hn' : (n : Int) ≤ 1048576 := by omega
 obtain ⟨cs, hcs, hmk⟩ := run_make_kind kndEE n hn
 have HCS : Hid (cs.size = n) := hcs
 have HR : Hid (RowS w a0 n fun i => .slice (A i) (L i) (C i)) := hr
 have HI : Hid (∀ i, i < n → (∃ b off, A i = some ⟨b, off, none⟩ ∧ Src w (A i) (fE (H i) (L i))) ∨ (z = false ∧ A i = none ∧ L i = 0 ∧ C i = 0)) := hI
 have HL : Hid (∀ i, i < n → L i ≤ 1048576) := hL
 clear hr hI hL hcs
 go_enter Tryz.func98, Tryz.ntmps98
 go_wp2_with fail
 clear hmk
 go_loopw [3, 11] (fun v i wr => ∃ k : Nat, k ≤ n ∧ i = .int .i64 k ∧ Hid ((∃ u, LE z wr (fun b => w.heap.size ≤ b ∧ b < wr.heap.size) v k u L H) ∧ Below w.heap.size w wr)) (fun _ i _ => n - (intOf i).toNat)
 case atStart => exact ⟨0, Nat.zero_le _, rfl, ⟨fun _ => .slice none 0 0, LL.made _ _ _ w _ n hn HCS.out _ (by simp) _ _ _⟩, below_allocL _ _⟩
 case round =>
  obtain ⟨k, hk, rfl, HZ⟩ := hrel
  by_cases hlt : k < n
  ·have hlt' : (k : Int) < (n : Int) := by omega
   obtain ⟨b, off, rfl, ck⟩ := (HR.out.below HZ.out.2).at hlt
   have hbl : b < wr.heap.size := World.block_lt_of_cell? wr _ ck
   rcases HI.out k hlt with ⟨b2, o2, ea, hsr⟩ | ⟨hz, ea, eL, eC⟩
   ·rw [ea] at hsr ck
    have HS : Hid (Src wr (some ⟨b2, o2, none⟩) (fE (H k) (L k))) := hsr.below HZ.out.2
    have HLk : Hid (L k ≤ 1048576) := HL.out k hlt
    have hk2 : Hid (k ≤ 2000000) := by show k ≤ 2000000; omega
    obtain ⟨⟨u, oz⟩, bz⟩ := HZ.out
    have OZ : Hid (LE z wr (fun b => w.heap.size ≤ b ∧ b < wr.heap.size) u3 k u L H) := oz
    have BZ : Hid (Below w.heap.size w wr) := bz
    clear oz bz HZ hsr ea
    go_wp2_with fail
    refine (cloneEvent_own b2 o2 (L k) (C k) (H k) wr HLk.out HS.out).mono ?_
    rintro e w4 ⟨a4, c4, rfl, o4, n4, b4⟩
    have F4 : Hid (w4.ownsRow wr.heap.size 106 3 (.slice a4 (L k) c4) (L k) (fE (H k) (L k)) ∧ Below wr.heap.size wr w4 ∧ Value.slice a4 (L k) c4 ≠ .slice none 0 0) := ⟨o4, b4, n4⟩
    clear o4 b4 n4 ck hbl
    go_wp2_with (at_builtin; refine step_append_val kndEE w4 rfl rfl _ _ rfl 0 u3 k _ rfl (OZ.out.below F4.out.2.1).row #[.slice a4 (L k) c4] rfl rfl (by intro u hu; simp at hu; subst hu; rfl) hk2.out (Nat.zero_le _) ?_; intro v5 w5 o5 g5 q5 n5; have F5 : Hid (LE z w5 (fun b => w.heap.size ≤ b ∧ b < w5.heap.size) v5 (k + 1) (fun j => if j = k then .slice a4 (L k) c4 else u j) L H ∧ Below w.heap.size w w5) := ⟨OZ.out.push F4.out.2.1 F4.out.1 (fun _ => F4.out.2.2) o5 g5 q5 (fun j hj _ => ⟨hj.1, Nat.lt_of_lt_of_le hj.2 (Nat.le_trans F4.out.2.1.size g5.size)⟩) (fun j hj hj' => ⟨Nat.le_trans BZ.out.size hj, hj'⟩), Below.grown (BZ.out.trans (F4.out.2.1.mono BZ.out.size)) g5 (Nat.le_trans BZ.out.size F4.out.2.1.size) (fun j hj => (OZ.out.rb j hj).1)⟩; clear o5 g5 q5 n5)
    go_roundw
    case rel => exact ⟨k + 1, by omega, by go_num, ⟨_, F5.out.1⟩, F5.out.2⟩
    case measure => simp [intOf]; omega
   ·rw [ea, eL, eC] at ck
    have HNz : Hid (¬ Nz z 106) := fun h => by
     rcases h with h | h
     ·rw [hz] at h
      cases h
     ·exact absurd h (by decide)
    have hk2 : Hid (k ≤ 2000000) := by show k ≤ 2000000; omega
    obtain ⟨⟨u, oz⟩, bz⟩ := HZ.out
    have OZ : Hid (LE z wr (fun b => w.heap.size ≤ b ∧ b < wr.heap.size) u3 k u L H) := oz
    have BZ : Hid (Below w.heap.size w wr) := bz
    have HE : Hid (L k = 0) := eL
    clear oz bz HZ ea eL eC hz
    go_wp2_with fail
    refine (cloneEvent_none wr).mono ?_
    rintro e w4 ⟨rfl, b4⟩
    have F4 : Hid (w4.ownsRow wr.heap.size 106 3 (.slice none 0 0) (L k) (fE (H k) (L k)) ∧ Below wr.heap.size wr w4) := ⟨by rw [HE.out]; exact World.ownsRow_nil _ _ _ _, b4⟩
    clear b4 ck hbl
    go_wp2_with (at_builtin; refine step_append_val kndEE w4 rfl rfl _ _ rfl 0 u3 k _ rfl (OZ.out.below F4.out.2).row #[.slice none 0 0] rfl rfl (by intro u hu; simp at hu; subst hu; rfl) hk2.out (Nat.zero_le _) ?_; intro v5 w5 o5 g5 q5 n5; have F5 : Hid (LE z w5 (fun b => w.heap.size ≤ b ∧ b < w5.heap.size) v5 (k + 1) (fun j => if j = k then .slice none 0 0 else u j) L H ∧ Below w.heap.size w w5) := ⟨OZ.out.push F4.out.2 F4.out.1 (fun h => absurd h HNz.out) o5 g5 q5 (fun j hj _ => ⟨hj.1, Nat.lt_of_lt_of_le hj.2 (Nat.le_trans F4.out.2.size g5.size)⟩) (fun j hj hj' => ⟨Nat.le_trans BZ.out.size hj, hj'⟩), Below.grown (BZ.out.trans (F4.out.2.mono BZ.out.size)) g5 (Nat.le_trans BZ.out.size F4.out.2.size) (fun j hj => (OZ.out.rb j hj).1)⟩; clear o5 g5 q5 n5)
    go_roundw
    case rel => exact ⟨k + 1, by omega, by go_num, ⟨_, F5.out.1⟩, F5.out.2⟩
    case measure => simp [intOf]; omega
  ·have hkn : k = n := by omega
   subst hkn
   go_wp2
   go_ret
   obtain ⟨⟨u, oz⟩, bz⟩ := HZ.out
   exact ⟨_, u, rfl, oz, bz⟩
variable {z : Bool}
structure SysIn.Nn (x : SysIn) (z : Bool) : Prop where
 w : ∀ i, i < x.wn → (∃ b off, x.wA i = some ⟨b, off, none⟩) ∨ (z = false ∧ x.wA i = none ∧ x.wL i = 0 ∧ x.wC i = 0)
 h : ∀ i, i < x.hn → (∃ b off, x.hA i = some ⟨b, off, none⟩) ∨ (z = false ∧ x.hA i = none ∧ x.hL i = 0 ∧ x.hC i = 0)
theorem run_make_states (n : Nat) (hn : n ≤ 1048576) : ∃ cs : Array Value, cs.size = n * 4 ∧ ∀ w : World, (Instr.makeSlice 30 (.int .i64 0) (.int .i64 (n : Int))).run Tryz.prog w = .ok (.slice (some ⟨w.heap.size, 0, none⟩) 0 n) (w.alloc (.cells cs 123)) := by
 obtain ⟨i, z, hi, hz, hs, hb, hzs⟩ := kndS.inf
 refine ⟨madeCells z.cells (n * 4), size_madeCells _ _, fun w => ?_⟩
 have hby : i.bytes * n ≤ 281474976710656 := by
  rw [hb]
  omega
 have hby' : (i.bytes : Int) * (n : Int) ≤ 281474976710656 := by rw [← Int.natCast_mul]; exact Int.ofNat_le.2 hby
 have h := run_make (P := Tryz.prog) w 30 123 i z kndS.und hi hz .i64 .i64 0 (n : Int) (by omega) (by omega) hby' (by omega)
 rw [hs, Int.toNat_natCast] at h
 exact h
theorem LS.made (w : World) (cs : Array Value) (n : Nat) (hn : n ≤ 1048576) (hc : cs.size = n * 4) (P : Nat → Prop) (hP : P w.heap.size) (vs : Nat → Value) (S : Nat → S4) {N : Nat} (hN : N = w.heap.size) : LS (w.alloc (.cells cs 123)) P (.slice (some ⟨N, 0, none⟩) 0 n) 0 vs S := by
 subst hN
 exact ⟨World.ownsRow_made (base := 0) (e := 123) (size := 4) w cs n (Nat.zero_le _) (by unfold maxLen; omega) hc, fun i hi => (by omega), fun k hk => (by cases hk; exact hP), fun i hi => (by omega), fun i hi => (by omega), fun i j hi => (by omega)⟩
theorem OwnS.four {B m1 m2 m3 m4 : Nat} {w1 w2 w3 w4 wf : World} {y : Sy} {vp vs vw vh : Value} {up us uw uh : Nat → Value} (h1 : m1 ≤ w1.heap.size) (h2 : w1.heap.size ≤ m2) (h3 : w2.heap.size ≤ m3) (h4 : w3.heap.size ≤ m4) (hB : B ≤ m1)
  (o1 : LS w1 (fun k => m1 ≤ k ∧ k < w1.heap.size) vs y.sn us y.sS) (o2 : LI z w2 (fun k => m2 ≤ k ∧ k < w2.heap.size) vp y.pn up y.pL y.pH) (o3 : LT z w3 (fun k => m3 ≤ k ∧ k < w3.heap.size) vw y.wn uw y.wL y.wH) (o4 : LE z w4 (fun k => m4 ≤ k ∧ k < w4.heap.size) vh y.hn uh y.hL y.hH)
  (b2 : Below w1.heap.size w1 w2) (b3 : Below w2.heap.size w2 w3) (b4 : Below w3.heap.size w3 w4) (hf : ∀ k, m1 ≤ k → k < w4.heap.size → wf.heap[k]? = w4.heap[k]?) :
  ∃ c, OwnS z wf B c y vp vs vw vh up us uw uh := by
 have z2 := b2.size
 have z3 := b3.size
 have z4 := b4.size
 refine ⟨fun k => if k < w1.heap.size then 2 else if k < w2.heap.size then 1 else if k < w3.heap.size then 3 else 4, ?_, ?_, ?_, ?_⟩
 ·refine (o2.keep (w' := wf) fun k hk hl => (hf k (by omega) (by omega)).trans ((b4.block k (by omega)).trans (b3.block k hl))).mono fun k hk _ => ⟨by omega, ?_⟩
  show (if k < w1.heap.size then 2 else if k < w2.heap.size then 1 else if k < w3.heap.size then 3 else 4) = 1
  rw [if_neg (by omega), if_pos (by omega)]
 ·refine (o1.keep (w' := wf) fun k hk hl => (hf k (by omega) (by omega)).trans ((b4.block k (by omega)).trans ((b3.block k (by omega)).trans (b2.block k hl)))).mono fun k hk _ => ⟨by omega, ?_⟩
  show (if k < w1.heap.size then 2 else if k < w2.heap.size then 1 else if k < w3.heap.size then 3 else 4) = 2
  rw [if_pos (by omega)]
 ·refine (o3.keep (w' := wf) fun k hk hl => (hf k (by omega) (by omega)).trans (b4.block k hl)).mono fun k hk _ => ⟨by omega, ?_⟩
  show (if k < w1.heap.size then 2 else if k < w2.heap.size then 1 else if k < w3.heap.size then 3 else 4) = 3
  rw [if_neg (by omega), if_neg (by omega), if_pos (by omega)]
 ·refine (o4.keep (w' := wf) fun k hk hl => hf k (by omega) hl).mono fun k hk _ => ⟨by omega, ?_⟩
  show (if k < w1.heap.size then 2 else if k < w2.heap.size then 1 else if k < w3.heap.size then 3 else 4) = 4
  rw [if_neg (by omega), if_neg (by omega), if_neg (by omega)]
theorem copySys_any (x : SysIn) (w : World) (hG : SysG w x) (hL : x.Len) (hN : x.Nn z) :
  Calls Tryz.prog 36 #[x.v] w fun e w' => ∃ v, e = .returned v ∧ OwnSys z w' w.heap.size x.y v ∧ Below w.heap.size w w' := by
 have HG : Hid (SysG w x) := hG
 have HL : Hid x.Len := hL
 have hsn' : (x.sn : Int) ≤ 1048576 := by have := hL.s.1; omega
 obtain ⟨cs, hcs, hmk⟩ := run_make_states x.sn hL.s.1
 have HCS : Hid (cs.size = x.sn * 4) := hcs
 have BW : Hid (Below w.heap.size w ((w.alloc (oQ4 x.pa x.pn x.pc x.sa x.sn x.sc x.wa x.wn x.wc x.ha x.hn x.hc)).alloc (zQ2))) := (below_allocL _ _).trans ((below_allocL _ _).mono (by simp))
 have NB : Hid (BoxC ((w.alloc (oQ4 x.pa x.pn x.pc x.sa x.sn x.sc x.wa x.wn x.wc x.ha x.hn x.hc)).alloc (zQ2)) w.heap.size (.slice x.pa x.pn x.pc) (.slice x.sa x.sn x.sc) (.slice x.wa x.wn x.wc) (.slice x.ha x.hn x.hc)) := (BoxC.new w _ _ _ _ _).below (below_allocL _ _)
 have RB : Hid (BoxC ((w.alloc (oQ4 x.pa x.pn x.pc x.sa x.sn x.sc x.wa x.wn x.wc x.ha x.hn x.hc)).alloc (zQ2)) (w.heap.size + 1) (.slice none 0 0) (.slice none 0 0) (.slice none 0 0) (.slice none 0 0) ∧ ∀ j, ((w.alloc (oQ4 x.pa x.pn x.pc x.sa x.sn x.sc x.wa x.wn x.wc x.ha x.hn x.hc)).alloc (zQ2)).frozen? ⟨w.heap.size + 1, j, none⟩ = false) := ⟨⟨new_cell _ _ _ 0 (by simp), new_cell _ _ _ 1 (by simp), new_cell _ _ _ 2 (by simp), new_cell _ _ _ 3 (by simp)⟩, fun j => new_frozen _ _ _ _ (by simp)⟩
 have hz : ((w.alloc (oQ4 x.pa x.pn x.pc x.sa x.sn x.sc x.wa x.wn x.wc x.ha x.hn x.hc)).alloc (zQ2)).heap.size = w.heap.size + 2 := by simp
 have hl0 : w.heap.size < ((w.alloc (oQ4 x.pa x.pn x.pc x.sa x.sn x.sc x.wa x.wn x.wc x.ha x.hn x.hc)).alloc (zQ2)).heap.size := by omega
 have hl1 : w.heap.size + 1 < ((w.alloc (oQ4 x.pa x.pn x.pc x.sa x.sn x.sc x.wa x.wn x.wc x.ha x.hn x.hc)).alloc (zQ2)).heap.size := by omega
 have Hp : Hid (∀ wx, Below ((w.alloc (oQ4 x.pa x.pn x.pc x.sa x.sn x.sc x.wa x.wn x.wc x.ha x.hn x.hc)).alloc (zQ2)).heap.size ((w.alloc (oQ4 x.pa x.pn x.pc x.sa x.sn x.sc x.wa x.wn x.wc x.ha x.hn x.hc)).alloc (zQ2)) wx → (RowS wx x.pa x.pn fun i => .slice (x.pA i) (x.pL i) (x.pC i)) ∧ ∀ i, i < x.pn → ∃ b off, x.pA i = some ⟨b, off, none⟩ ∧ Src wx (x.pA i) (fI (x.pH i) (x.pL i))) := fun wx hb => ⟨(HG.out.below (BW.out.trans (hb.mono BW.out.size))).p, fun i hi => by
  obtain ⟨b, e, hlt, hI⟩ := (HG.out.below (BW.out.trans (hb.mono BW.out.size))).pi i hi
  exact ⟨b, 0, e, by rw [e]; exact srcI hlt hI⟩⟩
 have Hw : Hid (∀ wx, Below ((w.alloc (oQ4 x.pa x.pn x.pc x.sa x.sn x.sc x.wa x.wn x.wc x.ha x.hn x.hc)).alloc (zQ2)).heap.size ((w.alloc (oQ4 x.pa x.pn x.pc x.sa x.sn x.sc x.wa x.wn x.wc x.ha x.hn x.hc)).alloc (zQ2)) wx → (RowS wx x.wa x.wn fun i => .slice (x.wA i) (x.wL i) (x.wC i)) ∧ ∀ i, i < x.wn → (∃ b off, x.wA i = some ⟨b, off, none⟩ ∧ Src wx (x.wA i) (fT (x.wH i) (x.wL i))) ∨ (z = false ∧ x.wA i = none ∧ x.wL i = 0 ∧ x.wC i = 0)) := fun wx hb => ⟨(HG.out.below (BW.out.trans (hb.mono BW.out.size))).w, fun i hi => by
  rcases hN.w i hi with ⟨b, off, e⟩ | h
  ·exact .inl ⟨b, off, e, srcT ((HG.out.below (BW.out.trans (hb.mono BW.out.size))).wi i hi)⟩
  ·exact .inr h⟩
 have Hh : Hid (∀ wx, Below ((w.alloc (oQ4 x.pa x.pn x.pc x.sa x.sn x.sc x.wa x.wn x.wc x.ha x.hn x.hc)).alloc (zQ2)).heap.size ((w.alloc (oQ4 x.pa x.pn x.pc x.sa x.sn x.sc x.wa x.wn x.wc x.ha x.hn x.hc)).alloc (zQ2)) wx → (RowS wx x.ha x.hn fun i => .slice (x.hA i) (x.hL i) (x.hC i)) ∧ ∀ i, i < x.hn → (∃ b off, x.hA i = some ⟨b, off, none⟩ ∧ Src wx (x.hA i) (fE (x.hH i) (x.hL i))) ∨ (z = false ∧ x.hA i = none ∧ x.hL i = 0 ∧ x.hC i = 0)) := fun wx hb => ⟨(HG.out.below (BW.out.trans (hb.mono BW.out.size))).h, fun i hi => by
  rcases hN.h i hi with ⟨b, off, e⟩ | h
  ·exact .inl ⟨b, off, e, srcE ((HG.out.below (BW.out.trans (hb.mono BW.out.size))).hi i hi)⟩
  ·exact .inr h⟩
 have HZ2 : Hid (((w.alloc (oQ4 x.pa x.pn x.pc x.sa x.sn x.sc x.wa x.wn x.wc x.ha x.hn x.hc)).alloc (zQ2)).heap.size = w.heap.size + 1 + 1) := hz
 clear hG hL hcs hz
 go_enter Tryz.func36, Tryz.ntmps36
 go_wp2_with fail
 clear hmk
 generalize hW2 : (w.alloc (oQ4 x.pa x.pn x.pc x.sa x.sn x.sc x.wa x.wn x.wc x.ha x.hn x.hc)).alloc (zQ2) = W2 at *
 clear hW2
 go_loopw [3, 13] (fun v i wr => ∃ k : Nat, k ≤ x.sn ∧ i = .int .i64 k ∧ Hid ((∃ us, LS wr (fun b => W2.heap.size ≤ b ∧ b < wr.heap.size) v k us x.sS) ∧ Below W2.heap.size W2 wr)) (fun _ i _ => x.sn - (intOf i).toNat)
 case atStart => exact ⟨0, Nat.zero_le _, rfl, ⟨fun _ => .slice none 0 0, LS.made W2 cs x.sn HL.out.s.1 HCS.out (fun b => W2.heap.size ≤ b ∧ b < (W2.alloc (.cells cs 123)).heap.size) ⟨Nat.le_refl _, by simp⟩ _ _ HZ2.out.symm⟩, below_allocL _ _⟩
 case round =>
  obtain ⟨k, hk, rfl, HZ⟩ := hrel
  by_cases hlt : k < x.sn
  ·have hlt' : (k : Int) < (x.sn : Int) := by omega
   obtain ⟨⟨us, oz⟩, bz⟩ := HZ.out
   obtain ⟨bs, os, es, s0, s1, s2, s3⟩ := (HG.out.below (BW.out.trans (bz.mono BW.out.size))).s.at hlt
   have hls := (HG.out.below (BW.out.trans (bz.mono BW.out.size))).s.lst k hlt
   have hbs : bs < wr.heap.size := World.block_lt_of_cell? wr _ s0
   have HLk := HL.out.s.2 k hlt
   rw [es]
   have OZ : Hid (LS wr (fun b => W2.heap.size ≤ b ∧ b < wr.heap.size) u3 k us x.sS) := oz
   have BZ : Hid (Below W2.heap.size W2 wr) := bz
   have LSt : Hid (Sl wr (x.sQ k).ra (x.sQ k).rs ∧ Sl wr (x.sQ k).oa (x.sQ k).os) := hls
   clear oz bz hls HZ es
   go_wp2_with fail
   have ba := below_allocL wr (oQ1 (x.sQ k).p (x.sQ k).ra (x.sQ k).rs.length (x.sQ k).rc (x.sQ k).oa (x.sQ k).os.length (x.sQ k).oc (x.sQ k).c)
   refine (copyState_any _ _ _ _ _ _ (x.sQ k).rs (x.sQ k).os _ HLk.1 HLk.2 (LSt.out.1.below ba) (LSt.out.2.below ba)).mono ?_
   rintro e w1 ⟨v1, rfl, o1, d1⟩
   obtain ⟨ra1, rc1, oa1, oc1, rfl, -, -⟩ := o1.read
   have q1 : Below wr.heap.size wr w1 := ba.trans (d1.mono ba.size)
   have F1 : Hid (StOwn w1 wr.heap.size (stV (x.sQ k).p ra1 (x.sQ k).rs.length rc1 oa1 (x.sQ k).os.length oc1 (x.sQ k).c) (x.sQ k).p (x.sQ k).rs (x.sQ k).os (x.sQ k).c ∧ Below wr.heap.size wr w1) := ⟨o1.mono (by simp), q1⟩
   clear o1 d1 q1 ba s0 s1 s2 s3
   go_wp2_with (at_builtin; refine step_append_val kndS w1 rfl rfl _ _ rfl 0 u3 k _ rfl (OZ.out.below F1.out.2).row #[.int .i64 (x.sQ k).p, .slice ra1 (x.sQ k).rs.length rc1, .slice oa1 (x.sQ k).os.length oc1, .int .i64 (x.sQ k).c] rfl rfl (by intro u hu; simp at hu; rcases hu with rfl | rfl | rfl | rfl <;> rfl) (by omega) (Nat.zero_le _) ?_; intro v5 w5 o5 g5 q5 n5; have F5 : Hid ((∃ us, LS w5 (fun b => W2.heap.size ≤ b ∧ b < w5.heap.size) v5 (k + 1) us x.sS) ∧ Below W2.heap.size W2 w5) := ⟨⟨_, OZ.out.push F1.out.2 F1.out.1 o5 g5 q5 (fun j hj _ => ⟨hj.1, Nat.lt_of_lt_of_le hj.2 (Nat.le_trans F1.out.2.size g5.size)⟩) (fun j hj hj' => ⟨Nat.le_trans BZ.out.size hj, hj'⟩)⟩, Below.grown (BZ.out.trans (F1.out.2.mono BZ.out.size)) g5 (Nat.le_trans BZ.out.size F1.out.2.size) (fun j hj => (OZ.out.rb j hj).1)⟩; clear o5 g5 q5 n5)
   go_roundw
   case rel => exact ⟨k + 1, by omega, by go_num, F5.out.1, F5.out.2⟩
   case measure => simp [intOf]; omega
  ·have hkn : k = x.sn := by omega
   subst hkn
   obtain ⟨⟨us, oz⟩, q0⟩ := HZ.out
   obtain ⟨sa, sc, rfl⟩ := ownsRow_slice oz.row
   have b0 := NB.out.below q0
   clear HZ
   go_wp2_with fail
   refine wp_region_G (fun w' => w'.cell? ⟨w.heap.size, 0, none⟩ = some (.slice x.pa x.pn x.pc) ∧ w'.cell? ⟨w.heap.size, 2, none⟩ = some (.slice x.wa x.wn x.wc) ∧ w'.cell? ⟨w.heap.size, 3, none⟩ = some (.slice x.ha x.hn x.hc)) (fun i => i == 11) (by kernel_rfl) ?_
   have hHeld : (fun w' => w'.cell? ⟨w.heap.size, 0, none⟩ = some (.slice x.pa x.pn x.pc) ∧ w'.cell? ⟨w.heap.size, 2, none⟩ = some (.slice x.wa x.wn x.wc) ∧ w'.cell? ⟨w.heap.size, 3, none⟩ = some (.slice x.ha x.hn x.hc)) wr.drew := ⟨b0.1, b0.2.2.1, b0.2.2.2⟩
   have q0 : Below W2.heap.size W2 wr.drew := q0.drew
   refine wpGT_of [0,1,3,4,5,7,8] ?_
   iterate 7 (refine wpGT_k rfl hHeld ?_)
   refine wpGT_nil ?_
   refine wpG_one 2 rfl (by kernel_rfl) (fun K hK => ?_)
   refine stepR_call rfl 96 _ _ rfl #[.slice x.pa x.pn x.pc] (by simp [Act.eval]) (run_enter Tryz.func96 (by kernel_rfl) rfl) (copyListsIns_own (z := z) x.pa x.pn x.pc x.pA x.pL x.pC x.pH wr.drew HL.out.p.1 HL.out.p.2 (Hp.out _ q0).1 (Hp.out _ q0).2) ?_
   rintro e w1 ⟨v1, u1, rfl, o1, d1⟩
   obtain ⟨a1, c1, rfl⟩ := ownsRow_slice o1.row
   refine ⟨_, rfl, ?_⟩
   have q1 : Below W2.heap.size W2 w1 := q0.trans (d1.mono q0.size)
   have b1 := NB.out.below q1
   refine hK.out _ _ (fun _ => ⟨b1.1, b1.2.2.1, b1.2.2.2⟩) ?_
   clear hHeld
   have hHeld : (fun w' => w'.cell? ⟨w.heap.size, 0, none⟩ = some (.slice x.pa x.pn x.pc) ∧ w'.cell? ⟨w.heap.size, 2, none⟩ = some (.slice x.wa x.wn x.wc) ∧ w'.cell? ⟨w.heap.size, 3, none⟩ = some (.slice x.ha x.hn x.hc)) w1 := ⟨b1.1, b1.2.2.1, b1.2.2.2⟩
   clear hK K
   (try simp only [Act.put, List.setIfInBounds_toArray, List.set_cons_zero, List.set_cons_succ])
   refine wpG_one 6 rfl (by kernel_rfl) (fun K hK => ?_)
   refine stepR_call rfl 97 _ _ rfl #[.slice x.wa x.wn x.wc] (by simp [Act.eval]) (run_enter Tryz.func97 (by kernel_rfl) rfl) (copyListsItem_own (z := z) x.wa x.wn x.wc x.wA x.wL x.wC x.wH w1 HL.out.w.1 HL.out.w.2 (Hw.out _ q1).1 (Hw.out _ q1).2) ?_
   rintro e w2 ⟨v2, u2, rfl, o2, d2⟩
   obtain ⟨a2, c2, rfl⟩ := ownsRow_slice o2.row
   refine ⟨_, rfl, ?_⟩
   have q2 : Below W2.heap.size W2 w2 := q1.trans (d2.mono q1.size)
   have b2 := NB.out.below q2
   refine hK.out _ _ (fun _ => ⟨b2.1, b2.2.2.1, b2.2.2.2⟩) ?_
   clear hHeld
   have hHeld : (fun w' => w'.cell? ⟨w.heap.size, 0, none⟩ = some (.slice x.pa x.pn x.pc) ∧ w'.cell? ⟨w.heap.size, 2, none⟩ = some (.slice x.wa x.wn x.wc) ∧ w'.cell? ⟨w.heap.size, 3, none⟩ = some (.slice x.ha x.hn x.hc)) w2 := ⟨b2.1, b2.2.2.1, b2.2.2.2⟩
   clear hK K
   (try simp only [Act.put, List.setIfInBounds_toArray, List.set_cons_zero, List.set_cons_succ])
   refine wpG_one 9 rfl (by kernel_rfl) (fun K hK => ?_)
   refine stepR_call rfl 98 _ _ rfl #[.slice x.ha x.hn x.hc] (by simp [Act.eval]) (run_enter Tryz.func98 (by kernel_rfl) rfl) (copyListsEvent_own (z := z) x.ha x.hn x.hc x.hA x.hL x.hC x.hH w2 HL.out.h.1 HL.out.h.2 (Hh.out _ q2).1 (Hh.out _ q2).2) ?_
   rintro e w3 ⟨v3, u3, rfl, o3, d3⟩
   obtain ⟨a3, c3, rfl⟩ := ownsRow_slice o3.row
   refine ⟨_, rfl, ?_⟩
   have q3 : Below W2.heap.size W2 w3 := q2.trans (d3.mono q2.size)
   have b3 := NB.out.below q3
   refine hK.out _ _ (fun _ => ⟨b3.1, b3.2.2.1, b3.2.2.2⟩) ?_
   clear hHeld
   have hHeld : (fun w' => w'.cell? ⟨w.heap.size, 0, none⟩ = some (.slice x.pa x.pn x.pc) ∧ w'.cell? ⟨w.heap.size, 2, none⟩ = some (.slice x.wa x.wn x.wc) ∧ w'.cell? ⟨w.heap.size, 3, none⟩ = some (.slice x.ha x.hn x.hc)) w3 := ⟨b3.1, b3.2.2.1, b3.2.2.2⟩
   clear hK K
   (try simp only [Act.put, List.setIfInBounds_toArray, List.set_cons_zero, List.set_cons_succ])
   refine wpG_k 10 rfl hHeld ?_
   obtain ⟨r0, r1, r2, r3⟩ := RB.out.1.below q3
   have rf : ∀ j, w3.frozen? ⟨w.heap.size + 1, j, none⟩ = false := fun j => ((bcell q3).2 _ j hl1).trans (RB.out.2 j)
   refine wpG_one 11 rfl (by kernel_rfl) (fun K hK => ?_)
   go_simp
   refine hK.out _ _ (fun h => ?_) ?_
   ·exact absurd h (by decide)
   clear hK K
   (try simp only [Act.put])
   refine wpG_done (by kernel_rfl) ?_ _
   go_wp2
   refine bodyPost_ret (v := sysV a1 x.pn c1 sa x.sn sc a2 x.wn c2 a3 x.hn c3) (by simp [results, Tryz.results36, go_sem, r0, r1, r2, r3]) rfl ⟨_, rfl, ?_, ?_⟩
   ·obtain ⟨cc, hcc⟩ := OwnS.four (B := w.heap.size) (m1 := W2.heap.size) (wf := (((w3.setCell ⟨w.heap.size + 1, 0, none⟩ (.slice a1 x.pn c1)).setCell ⟨w.heap.size + 1, 1, none⟩ (.slice sa x.sn sc)).setCell ⟨w.heap.size + 1, 2, none⟩ (.slice a2 x.wn c2)).setCell ⟨w.heap.size + 1, 3, none⟩ (.slice a3 x.hn c3)) (y := x.y) (by have : W2.heap.size ≤ wr.heap.size := q0.size; omega) (by simp) (Nat.le_refl _) (Nat.le_refl _) (by omega) oz o1 o2 o3 ((Below.refl wr.heap.size wr).drew.trans d1) d2 d3 (fun k h1 h2 => by repeat (rw [Below.heap_setCell _ _ _ _ (show k ≠ w.heap.size + 1 by omega)]))
    exact ⟨cc, _, _, _, _, _, _, _, _, rfl, hcc⟩
   ·have h9 := BW.out.trans (q3.mono BW.out.size)
    exact (((h9.setCell (show w.heap.size ≤ w.heap.size + 1 by omega) _).setCell (show w.heap.size ≤ w.heap.size + 1 by omega) _).setCell (show w.heap.size ≤ w.heap.size + 1 by omega) _).setCell (show w.heap.size ≤ w.heap.size + 1 by omega) _
theorem OwnSys.base {z : Bool} {w : World} {B B' : Nat} {y : Sy} {v : Value} (o : OwnSys z w B y v) (h : B' ≤ B) : OwnSys z w B' y v := by
 obtain ⟨c, vp, vs, vw, vh, up, us, uw, uh, e, o⟩ := o
 exact ⟨c, vp, vs, vw, vh, up, us, uw, uh, e, o.p.mono fun _ q _ => ⟨Nat.le_trans h q.1, q.2⟩, o.s.mono fun _ q _ => ⟨Nat.le_trans h q.1, q.2⟩, o.t.mono fun _ q _ => ⟨Nat.le_trans h q.1, q.2⟩, o.h.mono fun _ q _ => ⟨Nat.le_trans h q.1, q.2⟩⟩
theorem OwnSys.setBelow {z : Bool} {w : World} {B : Nat} {y : Sy} {v : Value} (o : OwnSys z w B y v) {N : Nat} (h : N < B) (j : Nat) (u : Value) : OwnSys z (w.setCell ⟨N, j, none⟩ u) B y v := by
 obtain ⟨c, vp, vs, vw, vh, up, us, uw, uh, e, o⟩ := o
 have hk : ∀ i k, Cl B c i k → k < w.heap.size → (w.setCell ⟨N, j, none⟩ u).heap[k]? = w.heap[k]? := fun i k q _ => Below.heap_setCell _ _ _ _ fun e => by
  have e : k = N := e
  have := q.1
  omega
 exact ⟨c, vp, vs, vw, vh, up, us, uw, uh, e, o.p.keep (hk 1), o.s.keep (hk 2), o.t.keep (hk 3), o.h.keep (hk 4)⟩
theorem OwnSys.zero {z : Bool} (w : World) (B : Nat) (y : Sy) : OwnSys z w B { y with pn := 0, sn := 0, wn := 0, hn := 0 } (sysV none 0 0 none 0 0 none 0 0 none 0 0) :=
 ⟨fun _ => 0, _, _, _, _, fun _ => .slice none 0 0, fun _ => .slice none 0 0, fun _ => .slice none 0 0, fun _ => .slice none 0 0, rfl, LL.nil _ _ _ _ _ _ _ _, LS.nil _ _ _ _, LL.nil _ _ _ _ _ _ _ _, LL.nil _ _ _ _ _ _ _ _⟩
theorem OwnSys.form {z : Bool} {w : World} {B : Nat} {y : Sy} {v : Value} (o : OwnSys z w B y v) : ∃ pa pc sa sc wa wc ha hc, v = sysV pa y.pn pc sa y.sn sc wa y.wn wc ha y.hn hc := by
 obtain ⟨c, vp, vs, vw, vh, up, us, uw, uh, rfl, o⟩ := o
 obtain ⟨pa, pc, rfl⟩ := ownsRow_slice o.p.row
 obtain ⟨sa, sc, rfl⟩ := ownsRow_slice o.s.row
 obtain ⟨wa, wc, rfl⟩ := ownsRow_slice o.t.row
 obtain ⟨ha, hc, rfl⟩ := ownsRow_slice o.h.row
 exact ⟨pa, pc, sa, sc, wa, wc, ha, hc, rfl⟩
end Go.Proofs.YtfdanemmefckpaaGreatDoor
