import Derived.Test.YteggedobbojgoaaGreatDoorBf44
namespace Go.Proofs.YteggedobbojgoaaGreatDoor
open Go.ChangeShapes Go.WideShapes Go.ChangeAt Go.RowKit Go.Deep Go.Sort
def chN (x:SysIn) (p:Nat):Nat:=if x.nq p=9 then x.pn else 1
def rdL (c:Nat->Int):Nat->List Int
 | 0=>[]
 | k+1=>if c k=0 then rdL c k ++ [(k:Int)] else rdL c k
theorem qm6 {c:Nat->Int} {k:Nat} (h:c k=0):rdL c (k+1)=rdL c k ++ [(k:Int)]:=by rw [rdL,if_pos h]
theorem qjp {c:Nat->Int} {k:Nat} (h:¬ c k=0):rdL c (k+1)=rdL c k:=by rw [rdL,if_neg h]
theorem qoj (c:Nat->Int) (k:Nat):(rdL c k).length<=k:=by
 induction k with
 | zero=>simp [rdL]
 | succ k ih=>
  rw [rdL]
  split
  ·rw [List.length_append];simp;exact ih
  ·omega
theorem qmh {w w':World} {N:Nat} {a b c d:Value} (h:Below (N+1) w w') (o:BoxC w N a b c d):BoxC w' N a b c d:=
 ⟨(h.cell (p:=(aQ N 0)) (Nat.lt_succ_self _)).trans o.1,(h.cell (p:=(aQ N 1)) (Nat.lt_succ_self _)).trans o.2.1,(h.cell (p:=(aQ N 2)) (Nat.lt_succ_self _)).trans o.2.2.1,(h.cell (p:=(aQ N 3)) (Nat.lt_succ_self _)).trans o.2.2.2⟩
def rdX (x:SysIn) (p:Nat):List Int:=rdL (fun j=>cmC x p j) (chN x p)
