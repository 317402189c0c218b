import Derived.Test.YteggedobbojgoaaGreatDoorBf40
namespace Go.Proofs.YteggedobbojgoaaGreatDoor
open Go.ChangeShapes Go.WideShapes Go.ChangeAt Go.RowKit Go.Deep Go.Sort
def tkC (x:SysIn) (p:Nat) (f:Int):Int:=if belB f x.pn=true then (if x.wL (f.toNat*x.pn+p)=0 then 3 else if (x.wH (f.toNat*x.pn+p) 0).m=true then 5 else 0) else 2
def fuB (x:SysIn) (p:Nat) (k q:Int):Bool:=decide (200<=x.hL p) || (k == 2 && decide (12<=x.wL (p*x.pn+q.toNat)))
def SysIn.nk (x:SysIn) (p:Nat):Int:=nxK (x.pH p) (x.pL p) (x.sQ p).p (x.sQ p).rs (x.sQ p).os (x.sQ p).c
def SysIn.nq (x:SysIn) (p:Nat):Int:=nxP (x.pH p) (x.pL p) (x.sQ p).p (x.sQ p).rs (x.sQ p).os (x.sQ p).c
def SysIn.nv (x:SysIn) (p:Nat):Int:=nxW (x.pH p) (x.pL p) (x.sQ p).p (x.sQ p).rs (x.sQ p).os (x.sQ p).c
def cmC (x:SysIn) (p:Nat) (f:Int):Int:=if (x.sQ p).c≠0 then 6 else if fuB x p (x.nk p) (x.nq p)=true then 4 else if x.nk p=3 then tkC x p (if x.nq p=9 then f else x.nq p) else 0
theorem qvx (x:SysIn) (p:Nat) (f:Int):cmC x p f=cmS x.y p f:=rfl
