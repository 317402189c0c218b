import Derived.Test.YtegogmbfhddeoabGreatDoorVk32
namespace Go.Proofs.YtegogmbfhddeoabGreatDoor
open Go.RowKit Go.Deep
structure Sy.Sm (y:Sy):Prop where
 n:y.pn<=16/\y.sn<=16/\y.wn<=16/\y.hn<=16
 p:∀ i,i<y.pn->y.pL i<=1000
 s:∀ i,i<y.sn->(y.sS i).rs.length<=1000/\(y.sS i).os.length<=1000
 w:∀ i,i<y.wn->y.wL i<=1000
 h:∀ i,i<y.hn->y.hL i<=1000
theorem qu4 {n:Nat} {S:S4} (h:OkS n S):S.rs.length<=60/\S.os.length<=60:=by
 obtain ⟨⟨r0,r1,r2,r3,e,-⟩,-,h60,-⟩:=qby h;exact ⟨by rw [e];simp,h60⟩
theorem Sy.Ok.bds {y:Sy} (h:y.Ok):(∀ i,i<y.pn->y.pL i<=30)/\(∀ i,i<y.sn->OkS (y.pL i) (y.sS i))/\(∀ i,i<y.wn->y.wL i<=12)/\(∀ i,i<y.hn->y.hL i<=200):=by
 obtain ⟨⟨h1,h4⟩,hs,hh,hw⟩:=h.cn;refine ⟨fun i hi=>?_,fun i hi=>h.st (by omega),fun i hi=>?_,fun i hi=>h.le200 (by omega)⟩
 ·have h1:=h.four hi
  simp only [qab,Bool.and_eq_true,inB,decide_eq_true_eq] at h1;have:=h1.2.1;omega
 ·rw [hw] at hi
  have ha:i / y.pn<y.pn:=Nat.div_lt_of_lt_mul hi;have hb:i % y.pn<y.pn:=Nat.mod_lt _ (by omega);have e:i / y.pn*y.pn+i % y.pn=i:=by rw [Nat.mul_comm];exact Nat.div_add_mod i y.pn
  have:=h.way ha hb;rw [e] at this;exact this
theorem Sy.Ok.sm {y:Sy} (h:y.Ok):y.Sm:=by
 obtain ⟨⟨h1,h4⟩,hs,hh,hw⟩:=h.cn;obtain ⟨b1,b2,b3,b4⟩:=h.bds;have h16:y.pn*y.pn<=16:=zP (Nat.mul_le_mul h4 h4) (by omega);exact ⟨⟨by omega,by omega,by omega,by omega⟩,fun i hi=>by have:=b1 i hi;omega,fun i hi=>by have:=qu4 (b2 i hi);omega,fun i hi=>by have:=b3 i hi;omega,fun i hi=>by have:=b4 i hi;omega⟩
open Go.ChangeShapes Go.WideShapes Go.ChangeAt Go.Sort
def tkC (x:SysIn) (p:Nat) (f:Int):Int:=if belB f x.pn=true then (if x.wL (f.toNat*x.pn+p)=0 then 3 else if (x.wH (f.toNat*x.pn+p) 0).m=true then 5 else 0) else 2
def fuB (x:SysIn) (p:Nat) (k q:Int):Bool:=decide (200<=x.hL p) || (k == 2 && decide (12<=x.wL (p*x.pn+q.toNat)))
def SysIn.nk (x:SysIn) (p:Nat):Int:=nxK (x.pH p) (x.pL p) (x.sQ p).p (x.sQ p).rs (x.sQ p).os (x.sQ p).c
def SysIn.nq (x:SysIn) (p:Nat):Int:=nxP (x.pH p) (x.pL p) (x.sQ p).p (x.sQ p).rs (x.sQ p).os (x.sQ p).c
def SysIn.nv (x:SysIn) (p:Nat):Int:=nxW (x.pH p) (x.pL p) (x.sQ p).p (x.sQ p).rs (x.sQ p).os (x.sQ p).c
def cmC (x:SysIn) (p:Nat) (f:Int):Int:=if (x.sQ p).c≠0 then 6 else if fuB x p (x.nk p) (x.nq p)=true then 4 else if x.nk p=3 then tkC x p (if x.nq p=9 then f else x.nq p) else 0
theorem qwd (x:SysIn) (p:Nat) (f:Int):cmC x p f=cmS x.y p f:=rfl
def chN (x:SysIn) (p:Nat):Nat:=if x.nq p=9 then x.pn else 1
def rdL (c:Nat->Int):Nat->List Int
 | 0=>[]
 | k+1=>if c k=0 then rdL c k ++ [(k:Int)] else rdL c k
theorem qnf {c:Nat->Int} {k:Nat} (h:c k=0):rdL c (k+1)=rdL c k ++ [(k:Int)]:=by rw [rdL,if_pos h]
theorem qjo {c:Nat->Int} {k:Nat} (h:¬ c k=0):rdL c (k+1)=rdL c k:=by rw [rdL,if_neg h]
theorem qoi (c:Nat->Int) (k:Nat):(rdL c k).length<=k:=by
 induction k with
 | zero=>simp [rdL]
 | succ k ih=>
  rw [rdL]
  split
  ·rw [List.length_append];simp;exact ih
  ·omega
theorem qml {w w':World} {N:Nat} {a b c d:Value} (h:Below (N+1) w w') (o:BoxC w N a b c d):BoxC w' N a b c d:=
 ⟨(h.cell (p:=⟨N,0,none⟩) (Nat.lt_succ_self _)).trans o.1,(h.cell (p:=⟨N,1,none⟩) (Nat.lt_succ_self _)).trans o.2.1,(h.cell (p:=⟨N,2,none⟩) (Nat.lt_succ_self _)).trans o.2.2.1,(h.cell (p:=⟨N,3,none⟩) (Nat.lt_succ_self _)).trans o.2.2.2⟩
def rdX (x:SysIn) (p:Nat):List Int:=rdL (fun j=>cmC x p j) (chN x p)
