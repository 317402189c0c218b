import Derived.Test.YtmnajpgicdomcaaGreatDoorRl22
namespace Go.Proofs.YtmnajpgicdomcaaGreatDoor
open Go.ChangeShapes Go.WideShapes Go.ChangeAt Go.RowKit Go.Deep Go.Sort
def tkC (x:SysIn) (p:Nat) (f:Int):Int:=if belB f x.pn=true then (if x.wL (f.toNat*x.pn+p)=0 then 3 else if (x.wH (f.toNat*x.pn+p) 0).m=true then 5 else 0) else 2
def fuB (x:SysIn) (p:Nat) (k q:Int):Bool:=decide (200<=x.hL p) || (k == 2 && decide (12<=x.wL (p*x.pn+q.toNat)))
def SysIn.nk (x:SysIn) (p:Nat):Int:=nxK (x.pH p) (x.pL p) (x.sQ p).p (x.sQ p).rs (x.sQ p).os (x.sQ p).c
def SysIn.nq (x:SysIn) (p:Nat):Int:=nxP (x.pH p) (x.pL p) (x.sQ p).p (x.sQ p).rs (x.sQ p).os (x.sQ p).c
def SysIn.nv (x:SysIn) (p:Nat):Int:=nxW (x.pH p) (x.pL p) (x.sQ p).p (x.sQ p).rs (x.sQ p).os (x.sQ p).c
def cmC (x:SysIn) (p:Nat) (f:Int):Int:=if (x.sQ p).c≠0 then 6 else if fuB x p (x.nk p) (x.nq p)=true then 4 else if x.nk p=3 then tkC x p (if x.nq p=9 then f else x.nq p) else 0
theorem qwq (x:SysIn) (p:Nat) (f:Int):cmC x p f=cmS x.y p f:=rfl
def chN (x:SysIn) (p:Nat):Nat:=if x.nq p=9 then x.pn else 1
def rdL (c:Nat->Int):Nat->List Int
 | 0=>[]
 | k+1=>if c k=0 then rdL c k ++ [(k:Int)] else rdL c k
theorem qnf {c:Nat->Int} {k:Nat} (h:c k=0):rdL c (k+1)=rdL c k ++ [(k:Int)]:=by rw [rdL,if_pos h]
theorem qj9 {c:Nat->Int} {k:Nat} (h:¬ c k=0):rdL c (k+1)=rdL c k:=by rw [rdL,if_neg h]
theorem qos (c:Nat->Int) (k:Nat):(rdL c k).length<=k:=by
 induction k with
 | zero=>simp [rdL]
 | succ k ih=>
  rw [rdL]
  split
  ·rw [List.length_append];simp;exact ih
  ·omega
theorem qmm {w w':World} {N:Nat} {a b c d:Value} (h:Below (N+1) w w') (o:BoxC w N a b c d):BoxC w' N a b c d:=
 ⟨(h.cell (p:=⟨N,0,none⟩) (Nat.lt_succ_self _)).trans o.1,(h.cell (p:=⟨N,1,none⟩) (Nat.lt_succ_self _)).trans o.2.1,(h.cell (p:=⟨N,2,none⟩) (Nat.lt_succ_self _)).trans o.2.2.1,(h.cell (p:=⟨N,3,none⟩) (Nat.lt_succ_self _)).trans o.2.2.2⟩
def rdX (x:SysIn) (p:Nat):List Int:=rdL (fun j=>cmC x p j) (chN x p)
