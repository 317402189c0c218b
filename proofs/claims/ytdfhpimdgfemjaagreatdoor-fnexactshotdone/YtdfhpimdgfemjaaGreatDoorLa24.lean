/- What stands between the rounds of a draw of events. -/
import Derived.Test.YtdfhpimdgfemjaaGreatDoorLa14
import Derived.Test.YtdfhpimdgfemjaaGreatDoorLa23
import Derived.Test.YtdfhpimdgfemjaaGreatDoorLa16
import Derived.Test.YtdfhpimdgfemjaaGreatDoorLa22
namespace Go.Proofs.YtdfhpimdgfemjaaGreatDoor
open Go.RowKit

def cnt (eh : Nat → E3) (kd pr : Int) (n : Nat) : Nat := (plN eh kd pr n).length
theorem cnt_zero (eh : Nat → E3) (kd pr : Int) : cnt eh kd pr 0 = 0 := rfl
theorem cnt_hit {eh : Nat → E3} {kd pr : Int} {n : Nat} (h : hitB eh kd pr n = true) : cnt eh kd pr (n + 1) = cnt eh kd pr n + 1 := by
  unfold cnt
  rw [plN, if_pos h, List.length_append]
  rfl
theorem cnt_not {eh : Nat → E3} {kd pr : Int} {n : Nat} (h : hitB eh kd pr n = false) : cnt eh kd pr (n + 1) = cnt eh kd pr n := by
  unfold cnt
  rw [plN, if_neg (by rw [h]; decide)]
theorem cnt_le (eh : Nat → E3) (kd pr : Int) (n : Nat) : cnt eh kd pr n ≤ n := plN_le eh kd pr n
theorem cnt_mono (eh : Nat → E3) (kd pr : Int) {a b : Nat} (h : a ≤ b) : cnt eh kd pr a ≤ cnt eh kd pr b := by
  induction b with
  | zero =>
    have : a = 0 := by omega
    subst this
    exact Nat.le_refl _
  | succ b ih =>
    by_cases e : a = b + 1
    · subst e
      exact Nat.le_refl _
    · have := ih (by omega)
      rcases Bool.eq_false_or_eq_true (hitB eh kd pr b) with t | t
      · rw [cnt_hit t]
        omega
      · rw [cnt_not t]
        exact this
theorem hitB_iff {eh : Nat → E3} {kd pr : Int} {i : Nat} : hitB eh kd pr i = true ↔ (eh i).k = kd ∧ (eh i).q = pr := by
  simp [hitB]

/-- What hist has: how many processes, of each how many events, and which. -/
structure Hs where
  n : Nat
  l : Nat → Nat
  e : Nat → Nat → E3
/-- Each peer is a process. -/
def Hs.Peers (x : Hs) : Prop := ∀ p, p < x.n → ∀ i, i < x.l p → 0 ≤ (x.e p i).q ∧ (x.e p i).q < (x.n : Int)
/-- The next event of p can stand behind the row in which d are put. -/
def Hs.Can (x : Hs) (d : Nat → Nat) (p : Nat) : Prop :=
  d p < x.l p ∧ ((x.e p (d p)).k = 3 → cnt (x.e p) 3 (x.e p (d p)).q (d p) < cnt (x.e (x.e p (d p)).q.toNat) 2 p (d (x.e p (d p)).q.toNat))
def up (d : Nat → Nat) (p : Nat) : Nat → Nat := fun i => if i = p then d i + 1 else d i
theorem up_same (d : Nat → Nat) (p : Nat) : up d p p = d p + 1 := by simp [up]
theorem up_other {d : Nat → Nat} {p i : Nat} (h : i ≠ p) : up d p i = d i := by simp [up, h]
/-- What can be put, one behind the other. -/
inductive Hs.Put (x : Hs) : (Nat → Nat) → Prop
  | start : x.Put (fun _ => 0)
  | next {d : Nat → Nat} {p : Nat} : x.Put d → p < x.n → x.Can d p → x.Put (up d p)
def Hs.All (x : Hs) (d : Nat → Nat) : Prop := ∀ p, p < x.n → d p = x.l p
def Hs.Row (x : Hs) : Prop := ∃ d, x.Put d ∧ x.All d
theorem Hs.Put.le {x : Hs} {d : Nat → Nat} (h : x.Put d) : ∀ p, d p ≤ x.l p := by
  induction h with
  | start => exact fun _ => Nat.zero_le _
  | next _ _ hc ih =>
    rename_i d p _ _
    intro i
    by_cases e : i = p
    · subst e
      rw [up_same]
      exact hc.1
    · rw [up_other e]
      exact ih i
/-- What is put never goes beyond where nothing more can be put. -/
theorem Hs.Put.stuck {x : Hs} {d s : Nat → Nat} (h : x.Put d) (hp : x.Peers) (hs : ∀ p, p < x.n → ¬ x.Can s p) : ∀ p, p < x.n → d p ≤ s p := by
  induction h with
  | start => exact fun _ _ => Nat.zero_le _
  | next _ hpn hc ih =>
    rename_i d p _
    intro i hi
    by_cases e : i = p
    · subst e
      rw [up_same]
      have h1 := ih i hi
      by_cases e : d i = s i
      · exfalso
        refine hs i hi ⟨by rw [← e]; exact hc.1, fun hk => ?_⟩
        rw [← e] at hk ⊢
        have h2 := hc.2 hk
        have hq := hp i hi (d i) hc.1
        exact Nat.lt_of_lt_of_le h2 (cnt_mono _ _ _ (ih _ (by omega)))
      · omega
    · rw [up_other e]
      exact ih i hi
theorem Hs.row_iff {x : Hs} {s : Nat → Nat} (h : x.Put s) (hp : x.Peers) (hs : ∀ p, p < x.n → ¬ x.Can s p) : x.Row ↔ x.All s := by
  refine ⟨fun ⟨d, hd, ha⟩ p hpn => ?_, fun ha => ⟨s, h, ha⟩⟩
  have h1 := hd.stuck hp hs p hpn
  have h2 := h.le p
  have h3 := ha p hpn
  omega
/-- How many numbers from a to b are sent and not taken. -/
def Hs.opn (x : Hs) (d : Nat → Nat) (a b : Nat) : Int := (cnt (x.e a) 2 b (d a) : Int) - (cnt (x.e b) 3 a (d b) : Int)
theorem Hs.opn_start (x : Hs) (a b : Nat) : x.opn (fun _ => 0) a b = 0 := by simp [Hs.opn, cnt_zero]
theorem Hs.can_iff {x : Hs} {d : Nat → Nat} {p : Nat} (hp : x.Peers) (hpn : p < x.n) : x.Can d p ↔ d p < x.l p ∧ ((x.e p (d p)).k = 3 → 0 < x.opn d (x.e p (d p)).q.toNat p) := by
  unfold Hs.Can Hs.opn
  refine and_congr_right fun hl => ?_
  have hq := hp p hpn _ hl
  rw [show (((x.e p (d p)).q.toNat : Nat) : Int) = (x.e p (d p)).q by omega]
  refine ⟨fun h hk => ?_, fun h hk => ?_⟩
  · have := h hk
    omega
  · have := h hk
    omega
theorem Hs.opn_up {x : Hs} {d : Nat → Nat} {p a b : Nat} : x.opn (up d p) a b = x.opn d a b + (if a = p ∧ (x.e p (d p)).k = 2 ∧ (x.e p (d p)).q = (b : Int) then 1 else 0) - (if b = p ∧ (x.e p (d p)).k = 3 ∧ (x.e p (d p)).q = (a : Int) then 1 else 0) := by
  have hA : (cnt (x.e a) 2 b (up d p a) : Int) = cnt (x.e a) 2 b (d a) + (if a = p ∧ (x.e p (d p)).k = 2 ∧ (x.e p (d p)).q = (b : Int) then 1 else 0) := by
    by_cases e : a = p
    · subst e
      rw [up_same]
      rcases Bool.eq_false_or_eq_true (hitB (x.e a) 2 b (d a)) with t | t
      · rw [cnt_hit t, if_pos ⟨rfl, hitB_iff.1 t⟩]
        omega
      · rw [cnt_not t, if_neg (fun h => by rw [hitB_iff.2 h.2] at t; cases t)]
        omega
    · rw [up_other e, if_neg (fun h => e h.1)]
      omega
  have hB : (cnt (x.e b) 3 a (up d p b) : Int) = cnt (x.e b) 3 a (d b) + (if b = p ∧ (x.e p (d p)).k = 3 ∧ (x.e p (d p)).q = (a : Int) then 1 else 0) := by
    by_cases e : b = p
    · subst e
      rw [up_same]
      rcases Bool.eq_false_or_eq_true (hitB (x.e b) 3 a (d b)) with t | t
      · rw [cnt_hit t, if_pos ⟨rfl, hitB_iff.1 t⟩]
        omega
      · rw [cnt_not t, if_neg (fun h => by rw [hitB_iff.2 h.2] at t; cases t)]
        omega
    · rw [up_other e, if_neg (fun h => e h.1)]
      omega
  unfold Hs.opn
  rw [hA, hB]
  omega

end Go.Proofs.YtdfhpimdgfemjaaGreatDoor

namespace Go.Proofs.YtdfhpimdgfemjaaGreatDoor
open Go.RowKit

theorem Tl.widen {w : World} {B C C' N : Nat} {p c : Int} {ra : Option Addr} {rn rc : Nat} {oa : Option Addr} {on oc : Nat} {rs os : List Int} (h : Tl w B C N p c ra rn rc oa on oc rs os) (h1 : C ≤ C') (h2 : C' ≤ w.heap.size) : Tl w B C' N p c ra rn rc oa on oc rs os :=
  ⟨h.lo, Nat.lt_of_lt_of_le h.hi h1, h2, h.box, h.own, fun k hk => Nat.lt_of_lt_of_le (h.up k hk) h1, h.ne⟩

/-- What stands between the rounds of a draw of events: the events so far, the cursor, a state of the draw's own in block Bs, all of it below C. -/
structure Dr (w wr : World) (C W0 c len cap : Nat) (a0 : Option Addr) (Bs : Nat) (out : Value) (k : Nat) (p code : Int) (ra : Option Addr) (rc : Nat) (oa : Option Addr) (oc : Nat) (rs os : List Int) : Prop where
  ls : LstE wr w.heap.size out k
  cu : Cur wr W0 c a0 len cap
  gr : w.grownBy wr (some c)
  tl : Tl wr w.heap.size C Bs p code ra rs.length rc oa os.length oc rs os
  fz : ∀ j, wr.frozen? ⟨Bs, j, none⟩ = false
  oC : ∀ j, out.ownBlock = some j → j < C
  nB : out.ownBlock ≠ some Bs
  ap : ∀ j, hasBlock (stV p ra rs.length rc oa os.length oc code) j → out.ownBlock ≠ some j
  lr : rs.length ≤ 1048576
  lo : os.length ≤ 1048576

theorem Dr.tu {w wr w' : World} {C W0 c len cap : Nat} {a0 : Option Addr} {Bs : Nat} {out : Value} {k : Nat} {p code : Int} {ra : Option Addr} {rc : Nat} {oa : Option Addr} {oc : Nat} {rs os : List Int} (h : Dr w wr C W0 c len cap a0 Bs out k p code ra rc oa oc rs os) {lo hi : Nat} (t : Tu lo hi wr w') (hd : C ≤ lo ∨ hi ≤ w.heap.size) (hc : Cur w' W0 c a0 len cap) (hg : w.grownBy w' (some c)) : Dr w w' C W0 c len cap a0 Bs out k p code ra rc oa oc rs os := by
  obtain ⟨h1, h2, h3, h4, h5, h6, h7, h8, h9, h10⟩ := h
  refine ⟨h1.ofBlock fun j hj => ?_, hc, hg, h4.tu t hd, fun j => ?_, h6, h7, h8, h9, h10⟩
  · have a := h1.lt j hj
    have b := h6 j hj
    exact t.block j a.2 (by omega)
  · rw [World.frozen?_of_block (t.block Bs (Nat.lt_of_lt_of_le h4.hi h4.sz) (by have := h4.lo; have := h4.hi; omega))]
    exact h5 j
theorem Dr.turn {w wr w' : World} {C W0 c len cap : Nat} {a0 : Option Addr} {Bs : Nat} {out : Value} {k : Nat} {p code : Int} {ra : Option Addr} {rc : Nat} {oa : Option Addr} {oc : Nat} {rs os : List Int} (h : Dr w wr C W0 c len cap a0 Bs out k p code ra rc oa oc rs os) (hcl : c < w.heap.size) (hc : Cur w' W0 c a0 len cap) (hg : wr.grownBy w' (some c)) : Dr w w' C W0 c len cap a0 Bs out k p code ra rc oa oc rs os :=
  h.tu (Tu.of_row hg) (.inr hcl) hc (h.gr.trans hg)
theorem Dr.below {w wr w' : World} {C W0 c len cap : Nat} {a0 : Option Addr} {Bs : Nat} {out : Value} {k : Nat} {p code : Int} {ra : Option Addr} {rc : Nat} {oa : Option Addr} {oc : Nat} {rs os : List Int} (h : Dr w wr C W0 c len cap a0 Bs out k p code ra rc oa oc rs os) (hb : Below wr.heap.size wr w') : Dr w w' C W0 c len cap a0 Bs out k p code ra rc oa oc rs os :=
  h.tu (Tu.of_below hb) (.inr (Nat.zero_le _)) (h.cu.kept (grown_of_below hb) (by simp) (fun k e => by cases e)) (h.gr.trans (grown_any (grown_of_below hb) _))
theorem Dr.set {w wr : World} {C W0 c len cap : Nat} {a0 : Option Addr} {Bs : Nat} {out : Value} {k : Nat} {p code : Int} {ra : Option Addr} {rc : Nat} {oa : Option Addr} {oc : Nat} {rs os : List Int} (h : Dr w wr C W0 c len cap a0 Bs out k p code ra rc oa oc rs os) (hcl : c < w.heap.size) (hcg : W0 ≤ c) {N : Nat} (hN : C ≤ N) (j : Nat) (v : Value) : Dr w (wr.setCell ⟨N, j, none⟩ v) C W0 c len cap a0 Bs out k p code ra rc oa oc rs os := by
  have hw : w.heap.size ≤ N := by have := h.tl.lo; have := h.tl.hi; omega
  exact h.tu (Tu.of_row (b := N) (grown_setCell (p := ⟨N, j, none⟩) (World.grownBy.refl _ _) (.inl rfl) v)) (.inl hN) (h.cu.setOther (p := ⟨N, j, none⟩) (by simp; omega) (by simp; omega) v) (grown_setCell (p := ⟨N, j, none⟩) h.gr (.inr hw) v)
theorem Dr.widen {w wr : World} {C W0 c len cap : Nat} {a0 : Option Addr} {Bs : Nat} {out : Value} {k : Nat} {p code : Int} {ra : Option Addr} {rc : Nat} {oa : Option Addr} {oc : Nat} {rs os : List Int} (h : Dr w wr C W0 c len cap a0 Bs out k p code ra rc oa oc rs os) : Dr w wr wr.heap.size W0 c len cap a0 Bs out k p code ra rc oa oc rs os :=
  ⟨h.ls, h.cu, h.gr, h.tl.widen h.tl.sz (Nat.le_refl _), h.fz, fun j hj => Nat.lt_of_lt_of_le (h.oC j hj) h.tl.sz, h.nB, h.ap, h.lr, h.lo⟩
theorem Dr.ins {w wr : World} {C W0 c len cap : Nat} {a0 : Option Addr} {Bs : Nat} {out : Value} {k : Nat} {p code : Int} {ra : Option Addr} {rc : Nat} {oa : Option Addr} {oc : Nat} {rs os : List Int} (h : Dr w wr C W0 c len cap a0 Bs out k p code ra rc oa oc rs os) {gb n : Nat} {g : Nat → I5} (hI : InsAt w gb 0 n g) (hg : gb < w.heap.size) (hne : gb ≠ c) : InsAt wr gb 0 n g ∧ gb < wr.heap.size := by
  have hb := h.gr.block gb hg (by simp [hne])
  refine ⟨fun i hi => ?_, Nat.lt_of_lt_of_le hg h.gr.size⟩
  obtain ⟨c0, c1, c2, c3, c4⟩ := hI i hi
  exact ⟨(World.cell?_of_block hb).trans c0, (World.cell?_of_block hb).trans c1, (World.cell?_of_block hb).trans c2, (World.cell?_of_block hb).trans c3, (World.cell?_of_block hb).trans c4⟩

/-- An event in block N, that may be written. -/
def EvB (w : World) (N : Nat) (k q v : Int) : Prop := EvC3 w N k q v ∧ ∀ j, w.frozen? ⟨N, j, none⟩ = false
theorem EvB.lt {w : World} {N : Nat} {k q v : Int} (h : EvB w N k q v) : N < w.heap.size := World.block_lt_of_cell? w _ h.1.1
theorem EvB.block {w w' : World} {N : Nat} {k q v : Int} (h : EvB w N k q v) (hb : w'.heap[N]? = w.heap[N]?) : EvB w' N k q v := by
  obtain ⟨⟨h0, h1, h2⟩, h3⟩ := h
  exact ⟨⟨(World.cell?_of_block hb).trans h0, (World.cell?_of_block hb).trans h1, (World.cell?_of_block hb).trans h2⟩, fun j => (World.frozen?_of_block hb).trans (h3 j)⟩
theorem EvB.new (w : World) (k q v : Int) (t : TypeId) : EvB (w.alloc (.cells #[.int .i64 k, .int .i64 q, .int .i64 v] t)) w.heap.size k q v := ⟨EvC3.new w k q v t, fun j => new_frozen _ _ _ j rfl⟩
theorem EvB.set1 {w : World} {N : Nat} {k q v : Int} (h : EvB w N k q v) (x : Int) : EvB (w.setCell ⟨N, 1, none⟩ (.int .i64 x)) N k x v := by
  obtain ⟨⟨h0, h1, h2⟩, h3⟩ := h
  exact ⟨⟨by go_cell, by go_cell, by go_cell⟩, fun j => by rw [World.frozen?_setCell]; exact h3 j⟩
theorem EvB.set2 {w : World} {N : Nat} {k q v : Int} (h : EvB w N k q v) (x : Int) : EvB (w.setCell ⟨N, 2, none⟩ (.int .i64 x)) N k q x := by
  obtain ⟨⟨h0, h1, h2⟩, h3⟩ := h
  exact ⟨⟨by go_cell, by go_cell, by go_cell⟩, fun j => by rw [World.frozen?_setCell]; exact h3 j⟩

/-- One event more, and the state behind it. -/
theorem Dr.next {w w8 w9 : World} {C W0 c len cap : Nat} {a0 : Option Addr} {Bs : Nat} {out out' : Value} {k : Nat} {p code : Int} {ra : Option Addr} {rc : Nat} {oa : Option Addr} {oc : Nat} {rs os : List Int} (h : Dr w w8 C W0 c len cap a0 Bs out k p code ra rc oa oc rs os) (hcl : c < w.heap.size) (hcg : W0 ≤ c)
    {B7 : Nat} {S : S4} {ra7 oa7 : Option Addr} {rc7 oc7 : Nat} (o7 : StOwn w8 B7 (stV S.p ra7 S.rs.length rc7 oa7 S.os.length oc7 S.c) S.p S.rs S.os S.c) (hB : C ≤ B7) (l1 : S.rs.length ≤ 1048576) (l2 : S.os.length ≤ 1048576)
    (g9 : w8.grownBy w9 out.ownBlock) (L9 : LstE w9 w.heap.size out' (k + 1)) (a9 : ∀ j, out'.ownBlock = some j → out.ownBlock = some j ∨ w8.heap.size ≤ j) :
    Dr w ((((w9.setCell ⟨Bs, 0, none⟩ (.int .i64 S.p)).setCell ⟨Bs, 1, none⟩ (.slice ra7 S.rs.length rc7)).setCell ⟨Bs, 2, none⟩ (.slice oa7 S.os.length oc7)).setCell ⟨Bs, 3, none⟩ (.int .i64 S.c)) w9.heap.size W0 c len cap a0 Bs out' (k + 1) S.p S.c ra7 rc7 oa7 oc7 S.rs S.os := by
  have hlo := h.tl.lo
  have hhi := h.tl.hi
  have hsz := h.tl.sz
  have hs9 := g9.size
  have gz := grown4 w9 Bs (.int .i64 S.p) (.slice ra7 S.rs.length rc7) (.slice oa7 S.os.length oc7) (.int .i64 S.c)
  have hap : ∀ j, out.ownBlock = some j → w.heap.size ≤ j ∧ j < C := fun j hj => ⟨(h.ls.lt j hj).1, h.oC j hj⟩
  have eB : w9.heap[Bs]? = w8.heap[Bs]? := g9.block Bs (by omega) (fun e => h.nB e.symm)
  have nB : out'.ownBlock ≠ some Bs := fun e => by
    rcases a9 Bs e with e | e
    · exact h.nB e
    · omega
  obtain ⟨b0, b1, b2, b3⟩ := h.tl.box
  have o9 : StOwn w9 B7 (stV S.p ra7 S.rs.length rc7 oa7 S.os.length oc7 S.c) S.p S.rs S.os S.c := by
    obtain ⟨q1, q2, qa⟩ := o7.parts
    refine ⟨_, _, rfl, q1.ofBlock fun j hj => ?_, q2.ofBlock fun j hj => ?_, qa⟩
    · have := q1.lt j hj
      exact g9.block j this.2 (fun e => by have := hap j e.symm; omega)
    · have := q2.lt j hj
      exact g9.block j this.2 (fun e => by have := hap j e.symm; omega)
  have gW : w.grownBy w9 (some c) := ⟨g9.os.trans h.gr.os, g9.tape.trans h.gr.tape, g9.output.trans h.gr.output, Nat.le_trans h.gr.size g9.size, fun j hj hne => (g9.block j (Nat.lt_of_lt_of_le hj h.gr.size) (fun e => by have := hap j e.symm; omega)).trans (h.gr.block j hj hne)⟩
  have hC : C ≤ w9.heap.size := by omega
  refine ⟨?_, ?_, ?_, ⟨hlo, by omega, by simp, ?_, ?_, fun j hj => ?_, fun hj => ?_⟩, fun j => ?_, fun j hj => ?_, nB, fun j hj e => ?_, l1, l2⟩
  · exact L9.kept gz (fun j e => by cases e; exact nB)
  · have hc9 : Cur w9 W0 c a0 len cap := h.cu.kept g9 (fun e => by have := hap c e.symm; omega) (fun j e => by have := hap j e; omega)
    exact (((hc9.setOther (p := ⟨Bs, 0, none⟩) (by simp; omega) (by simp; omega) _).setOther (p := ⟨Bs, 1, none⟩) (by simp; omega) (by simp; omega) _).setOther (p := ⟨Bs, 2, none⟩) (by simp; omega) (by simp; omega) _).setOther (p := ⟨Bs, 3, none⟩) (by simp; omega) (by simp; omega) _
  · repeat (refine grown_setCell ?_ (.inr hlo) _)
    exact gW
  · exact BoxC.set4 (z0 := .int .i64 p) (z1 := .slice ra rs.length rc) (z2 := .slice oa os.length oc) (z3 := .int .i64 code) ⟨(World.cell?_of_block eB).trans b0, (World.cell?_of_block eB).trans b1, (World.cell?_of_block eB).trans b2, (World.cell?_of_block eB).trans b3⟩ _ _ _ _
  · exact o9.put4 (by omega) (by omega)
  · exact (o9.lt hj).2
  · have := (o9.lt hj).1
    omega
  · rw [World.frozen?_setCell, World.frozen?_setCell, World.frozen?_setCell, World.frozen?_setCell, World.frozen?_of_block eB]
    exact h.fz j
  · exact (L9.lt j hj).2
  · have hj7 := o7.lt hj
    rcases a9 j e with e | e
    · have := hap j e
      omega
    · omega

end Go.Proofs.YtdfhpimdgfemjaaGreatDoor
