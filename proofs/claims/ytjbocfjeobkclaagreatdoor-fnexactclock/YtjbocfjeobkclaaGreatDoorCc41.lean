/- Lists of ints and what came in, while other blocks turn. -/
import Derived.Test.YtjbocfjeobkclaaGreatDoorCc0
import Derived.Test.YtjbocfjeobkclaaGreatDoorCc34
import Derived.Test.YtjbocfjeobkclaaGreatDoorCc8
import Derived.Test.YtjbocfjeobkclaaGreatDoorCc38
namespace Go.Proofs.YtjbocfjeobkclaaGreatDoor
open Go.ChangeShapes Go.WideShapes Go.ChangeAt Go.RowKit Go.Deep
def rcol (c : Nat → Nat) (n q : Nat) : Nat → Nat := fun k => if k < n then c k else q
theorem rcol_old {c : Nat → Nat} {n q k : Nat} (h : k < n) : rcol c n q k = c k := if_pos h
theorem rcol_new {c : Nat → Nat} {n q k : Nat} (h : n ≤ k) : rcol c n q k = q := if_neg (by omega)
section
variable {B N : Nat} {c : Nat → Nat} {y : Sy} {ks kw : Nat} {wr : World} {vp vs vw vh : Value} {up us uw uh : Nat → Value}
end
theorem OwnI.far {w w' : World} {B : Nat} {v : Value} {xs : List Int} {row : Option Nat} (h : OwnI w B v xs) (hg : w.grownBy w' row) (hne : ∀ j, v.ownBlock = some j → row ≠ some j) : OwnI w' B v xs := by
 refine h.kept hg ?_
 cases hv : v.ownBlock with
 | none => exact .inl rfl
 | some k => exact .inr (fun e => hne k hv e.symm)
theorem OwnI.sl {w : World} {B : Nat} {a0 : Option Addr} {cap : Nat} {xs : List Int} (h : OwnI w B (.slice a0 xs.length cap) xs) : Sl w a0 xs := by
 obtain ⟨a1, c1, e, s⟩ := h.form
 simp only [Value.slice.injEq] at e
 obtain ⟨rfl, -, -⟩ := e
 exact s
theorem OwnI.touch {w w' : World} {B : Nat} {v : Value} {xs : List Int} {P : Nat → Prop} (o : OwnI w B v xs) (ht : Touch P w w') (hp : ∀ g, v.ownBlock = some g → ¬ P g) : OwnI w' B v xs := o.blk fun k hk => ht.block k (o.lt k hk).2 (hp k hk)
theorem Px.touch {W : World} {x : SysIn} {w w' : World} {P : Nat → Prop} (h : Px W x w) (ht : Touch P w w') (hp : ∀ b, P b → W.heap.size < b) : Px W x w' := by
 have hc : ∀ i, w'.cell? ⟨W.heap.size, i, none⟩ = w.cell? ⟨W.heap.size, i, none⟩ := fun i => ht.cell h.lt (fun e => by have := hp _ e; omega) i
 obtain ⟨h0, h1, h2, h3⟩ := h.bx
 exact ⟨h.be.trans (ht.below (Nat.le_of_lt h.lt) fun b e => by have := hp b e; omega), ⟨(hc _).trans h0, (hc _).trans h1, (hc _).trans h2, (hc _).trans h3⟩, Nat.lt_of_lt_of_le h.lt ht.size⟩
end Go.Proofs.YtjbocfjeobkclaaGreatDoor
