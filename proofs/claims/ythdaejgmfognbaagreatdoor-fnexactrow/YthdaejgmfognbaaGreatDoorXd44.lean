/- Rows of events, one behind the other: which are rows, and the one in which the least process comes first. -/
import Derived.Test.YthdaejgmfognbaaGreatDoorXd0
import Derived.Test.YthdaejgmfognbaaGreatDoorXd43
import Derived.Test.YthdaejgmfognbaaGreatDoorXd39
namespace Go.Proofs.YthdaejgmfognbaaGreatDoor
open Go.ChangeShapes Go.WideShapes Go.ChangeAt Go.RowKit Go.Deep
theorem OwnI.sl {w : World} {B : Nat} {a0 : Option Addr} {cap : Nat} {xs : List Int} (h : OwnI w B (.slice a0 xs.length cap) xs) : Sl w a0 xs := by
 obtain ⟨a1, c1, e, s⟩ := h.form
 simp only [Value.slice.injEq] at e
 obtain ⟨rfl, -, -⟩ := e
 exact s
theorem OwnI.touch {w w' : World} {B : Nat} {v : Value} {xs : List Int} {P : Nat -> Prop} (o : OwnI w B v xs) (ht : Touch P w w') (hp : ∀ g, v.ownBlock = some g -> ¬ P g) : OwnI w' B v xs := o.blk fun k hk => ht.block k (o.lt k hk).2 (hp k hk)
theorem Px.touch {W : World} {x : SysIn} {w w' : World} {P : Nat -> Prop} (h : Px W x w) (ht : Touch P w w') (hp : ∀ b, P b -> W.heap.size < b) : Px W x w' := by
 have hc : ∀ i, w'.cell? ⟨W.heap.size, i, none⟩ = w.cell? ⟨W.heap.size, i, none⟩ := fun i => ht.cell h.lt (fun e => by have := hp _ e; omega) i
 obtain ⟨h0, h1, h2, h3⟩ := h.bx
 exact ⟨h.be.trans (ht.below (Nat.le_of_lt h.lt) fun b e => by have := hp b e; omega), ⟨(hc _).trans h0, (hc _).trans h1, (hc _).trans h2, (hc _).trans h3⟩, zL h.lt ht.size⟩
def tnD (f : Nat -> Nat) : Nat -> Nat -> Nat
 | 0 => fun _ => 0
 | k + 1 => up (tnD f k) (f k)
theorem tnD_succ (f : Nat -> Nat) (k : Nat) : tnD f (k + 1) = up (tnD f k) (f k) := rfl
def tnH (f : Nat -> Nat) (k : Nat) : Wo2 := ⟨(f k : Nat), (tnD f k (f k) : Nat)⟩
def rwF (h : Nat -> Wo2) (k : Nat) : Nat := (h k).m.toNat
def Hs.RwAt (y : Hs) (h : Nat -> Wo2) (k : Nat) : Prop := ∃ p, p < y.n /\ (h k).m = (p : Nat) /\ (h k).v = (tnD (rwF h) k p : Nat) /\ y.Can (tnD (rwF h) k) p
def Hs.RwOk (y : Hs) (h : Nat -> Wo2) (n : Nat) : Prop := (∀ k, k < n -> y.RwAt h k) /\ y.All (tnD (rwF h) n)
theorem Hs.rw_put {y : Hs} {h : Nat -> Wo2} : ∀ {k : Nat}, (∀ j, j < k -> y.RwAt h j) -> y.Put (tnD (rwF h) k)
 | 0, _ => .start
 | k + 1, hh => by
  obtain ⟨p, hp, e1, e2, e3⟩ := hh k (Nat.lt_succ_self _)
  have ep : rwF h k = p := by rw [rwF, e1]; exact Int.toNat_natCast p
  rw [tnD_succ, ep]
  exact .next (Hs.rw_put fun j hj => hh j (Nat.lt_succ_of_lt hj)) hp e3
theorem Hs.rw_hit {y : Hs} {h : Nat -> Wo2} {k p : Nat} (hp : p < y.n) (e1 : (h k).m = (p : Nat)) (e2 : (h k).v = (tnD (rwF h) k p : Nat)) (hc : y.Can (tnD (rwF h) k) p) : y.RwAt h k /\ tnD (rwF h) (k + 1) = up (tnD (rwF h) k) p := by
 refine ⟨⟨p, hp, e1, e2, hc⟩, ?_⟩
 have ep : rwF h k = p := by rw [rwF, e1]; exact Int.toNat_natCast p
 rw [tnD_succ, ep]
theorem Hs.rw_no {y : Hs} {h : Nat -> Wo2} {k n : Nat} (hk : k < n) (hn : ¬ y.RwAt h k) : ¬ y.RwOk h n := fun hh => hn (hh.1 k hk)
noncomputable def rwB (y : Sy) (h : Nat -> Wo2) (n : Nat) : Bool := y.okB && qB (y.hs.RwOk h n)
def Hs.Least (y : Hs) (d : Nat -> Nat) (p : Nat) : Prop := p < y.n /\ y.Can d p /\ ∀ j, j < p -> ¬ y.Can d j
theorem Hs.Least.one {y : Hs} {d : Nat -> Nat} {p q : Nat} (h : y.Least d p) (h' : y.Least d q) : p = q := by
 rcases Nat.lt_trichotomy p q with e | e | e
 ·exact absurd h.2.1 (h'.2.2 p e)
 ·exact e
 ·exact absurd h'.2.1 (h.2.2 q e)
open Classical in
noncomputable def Hs.lst (y : Hs) (d : Nat -> Nat) : Nat := if h : ∃ p, y.Least d p then h.choose else 0
theorem Hs.Least.lst {y : Hs} {d : Nat -> Nat} {p : Nat} (h : y.Least d p) : y.lst d = p := by
 unfold Hs.lst
 have he : ∃ p, y.Least d p := ⟨p, h⟩
 rw [dif_pos he]
 exact he.choose_spec.one h
noncomputable def Hs.gr (y : Hs) : Nat -> Nat -> Nat
 | 0 => fun _ => 0
 | k + 1 => up (y.gr k) (y.lst (y.gr k))
noncomputable def Hs.gf (y : Hs) (k : Nat) : Nat := y.lst (y.gr k)
theorem Hs.gr_tn (y : Hs) : ∀ k, tnD y.gf k = y.gr k
 | 0 => rfl
 | k + 1 => by
  rw [tnD_succ, Hs.gr_tn y k]
  rfl
theorem Hs.gr_next {y : Hs} {k p : Nat} (h : y.Least (y.gr k) p) : y.gr (k + 1) = up (y.gr k) p /\ y.gf k = p := by
 refine ⟨?_, h.lst⟩
 show up (y.gr k) (y.lst (y.gr k)) = _
 rw [h.lst]
theorem Hs.gr_sum {y : Hs} : ∀ {k : Nat}, (∀ j, j < k -> ∃ p, y.Least (y.gr j) p) -> sumL (y.gr k) y.n = k /\ y.Put (y.gr k)
 | 0, _ => ⟨sumL_zero _, .start⟩
 | k + 1, hh => by
  obtain ⟨h1, h2⟩ := Hs.gr_sum fun j hj => hh j (Nat.lt_succ_of_lt hj)
  obtain ⟨p, hp⟩ := hh k (Nat.lt_succ_self _)
  rw [(Hs.gr_next hp).1, sumL_up hp.1, h1]
  exact ⟨rfl, .next h2 hp.1 hp.2.1⟩
def Hs.tot (y : Hs) : Nat := sumL y.l y.n
theorem Hs.all_sum {y : Hs} {d : Nat -> Nat} (h : y.All d) : sumL d y.n = y.tot := sumL_same h
theorem Hs.gr_end {y : Hs} {k : Nat} (hh : ∀ j, j < k -> ∃ p, y.Least (y.gr j) p) (hp : y.Peers) (hr : y.Row) (hs : ∀ p, p < y.n -> ¬ y.Can (y.gr k) p) : k = y.tot := by
 obtain ⟨h1, h2⟩ := Hs.gr_sum hh
 have h3 := (Hs.row_iff h2 hp hs).1 hr
 rw [<- h1]
 exact Hs.all_sum h3
theorem Hs.gr_le {y : Hs} {k : Nat} (hh : ∀ j, j < k -> ∃ p, y.Least (y.gr j) p) : k <= y.tot := by
 obtain ⟨h1, h2⟩ := Hs.gr_sum hh
 rw [<- h1]
 exact sumL_le h2.le _
theorem Hs.tot_le {y : Hs} (h4 : y.n <= 4) (hl : ∀ i, i < y.n -> y.l i <= 200) : y.tot <= 800 := by
 have h9 : ∀ m, m <= y.n -> sumL y.l m <= m * 200 := by
  intro m
  induction m with
  | zero => exact fun _ => Nat.le_refl _
  | succ m ih =>
   intro hm
   have h3 := ih (by omega)
   have h5 := hl m hm
   show sumL y.l m + y.l m <= (m + 1) * 200
   omega
 have := h9 _ (Nat.le_refl _)
 unfold Hs.tot
 omega
noncomputable def rwN (y : Sy) : Nat := if y.okB = true then y.hs.tot else 0
noncomputable def rwH (y : Sy) : Nat -> Wo2 := tnH y.hs.gf
end Go.Proofs.YthdaejgmfognbaaGreatDoor
