import Derived.Test.YtegogmbfhddeoabGreatDoorVk13
import Derived.Test.YtegogmbfhddeoabGreatDoorVk18
import Derived.Test.YtegogmbfhddeoabGreatDoorVk16
namespace Go.Proofs.YtegogmbfhddeoabGreatDoor
set_option maxRecDepth 100000
set_option maxHeartbeats 1000000
open Go.RowKit
def cnt (eh:Nat->E3) (kd pr:Int) (n:Nat):Nat:=(plN eh kd pr n).length
theorem qsp (eh:Nat->E3) (kd pr:Int):cnt eh kd pr 0=0:=rfl
theorem qfu {eh:Nat->E3} {kd pr:Int} {n:Nat} (h:hitB eh kd pr n=true):cnt eh kd pr (n+1)=cnt eh kd pr n+1:=by
 unfold cnt;rw [plN,if_pos h,List.length_append];rfl
theorem qiz {eh:Nat->E3} {kd pr:Int} {n:Nat} (h:hitB eh kd pr n=false):cnt eh kd pr (n+1)=cnt eh kd pr n:=by
 unfold cnt;rw [plN,if_neg (by rw [h];decide)]
theorem qqf (eh:Nat->E3) (kd pr:Int) (n:Nat):cnt eh kd pr n<=n:=qil eh kd pr n
theorem qe6 (eh:Nat->E3) (kd pr:Int) {a b:Nat} (h:a<=b):cnt eh kd pr a<=cnt eh kd pr b:=by
 induction b with
 | zero=>
  have:a=0:=by omega
  subst this;exact Nat.le_refl _
 | succ b ih=>
  by_cases e:a=b+1
  ·subst e
   exact Nat.le_refl _
  ·have:=ih (by omega)
   rcases zK (hitB eh kd pr b) with t | t
   ·rw [qfu t]
    omega
   ·rw [qiz t]
    exact this
theorem qcz {eh:Nat->E3} {kd pr:Int} {i:Nat}:hitB eh kd pr i=true ↔ (eh i).k=kd/\(eh i).q=pr:=by
 simp [hitB]
structure Hs where
 n:Nat
 l:Nat->Nat
 e:Nat->Nat->E3
def Hs.Peers (x:Hs):Prop:=∀ p,p<x.n->∀ i,i<x.l p->0<=(x.e p i).q/\(x.e p i).q<(x.n:Int)
def Hs.Can (x:Hs) (d:Nat->Nat) (p:Nat):Prop:=
 d p<x.l p/\((x.e p (d p)).k=3->cnt (x.e p) 3 (x.e p (d p)).q (d p)<cnt (x.e (x.e p (d p)).q.toNat) 2 p (d (x.e p (d p)).q.toNat))
def up (d:Nat->Nat) (p:Nat):Nat->Nat:=fun i=>if i=p then d i+1 else d i
theorem qcd (d:Nat->Nat) (p:Nat):up d p p=d p+1:=by simp [up]
theorem up_other {d:Nat->Nat} {p i:Nat} (h:i≠p):up d p i=d i:=by simp [up,h]
inductive Hs.Put (x:Hs):(Nat->Nat)->Prop
 | start:x.Put (fun _=>0)
 | next {d:Nat->Nat} {p:Nat}:x.Put d->p<x.n->x.Can d p->x.Put (up d p)
def Hs.All (x:Hs) (d:Nat->Nat):Prop:=∀ p,p<x.n->d p=x.l p
def Hs.Row (x:Hs):Prop:=∃ d,x.Put d/\x.All d
theorem Hs.Put.le {x:Hs} {d:Nat->Nat} (h:x.Put d):∀ p,d p<=x.l p:=by
 induction h with
 | start=>exact fun _=>Nat.zero_le _
 | next _ _ hc ih=>
  rename_i d p _ _;intro i;by_cases e:i=p
  ·subst e
   rw [qcd];exact hc.1
  ·rw [up_other e]
   exact ih i
theorem Hs.Put.stuck {x:Hs} {d s:Nat->Nat} (h:x.Put d) (hp:x.Peers) (hs:∀ p,p<x.n->¬ x.Can s p):∀ p,p<x.n->d p<=s p:=by
 induction h with
 | start=>exact fun _ _=>Nat.zero_le _
 | next _ hpn hc ih=>
  rename_i d p _;intro i hi;by_cases e:i=p
  ·subst e
   rw [qcd];have h1:=ih i hi;by_cases e:d i=s i
   ·exfalso
    refine hs i hi ⟨by rw [<- e];exact hc.1,fun hk=>?_⟩;rw [<- e] at hk ⊢;have h2:=hc.2 hk;have hq:=hp i hi (d i) hc.1;exact zL h2 (qe6 _ _ _ (ih _ (by omega)))
   ·omega
  ·rw [up_other e]
   exact ih i hi
theorem Hs.row_iff {x:Hs} {s:Nat->Nat} (h:x.Put s) (hp:x.Peers) (hs:∀ p,p<x.n->¬ x.Can s p):x.Row ↔ x.All s:=by
 refine ⟨fun ⟨d,hd,ha⟩ p hpn=>?_,fun ha=>⟨s,h,ha⟩⟩;have h1:=hd.stuck hp hs p hpn;have h2:=h.le p;have h3:=ha p hpn;omega
def Hs.opn (x:Hs) (d:Nat->Nat) (a b:Nat):Int:=(cnt (x.e a) 2 b (d a):Int) - (cnt (x.e b) 3 a (d b):Int)
theorem Hs.opn_start (x:Hs) (a b:Nat):x.opn (fun _=>0) a b=0:=by simp [Hs.opn,qsp]
theorem Hs.can_iff {x:Hs} {d:Nat->Nat} {p:Nat} (hp:x.Peers) (hpn:p<x.n):x.Can d p ↔ d p<x.l p/\((x.e p (d p)).k=3->0<x.opn d (x.e p (d p)).q.toNat p):=by
 unfold Hs.Can Hs.opn;refine and_congr_right fun hl=>?_;have hq:=hp p hpn _ hl;rw [show (((x.e p (d p)).q.toNat:Nat):Int)=(x.e p (d p)).q by omega];refine ⟨fun h hk=>?_,fun h hk=>?_⟩
 ·have:=h hk
  omega
 ·have:=h hk
  omega
theorem Hs.opn_up {x:Hs} {d:Nat->Nat} {p a b:Nat}:x.opn (up d p) a b=x.opn d a b+(if a=p/\(x.e p (d p)).k=2/\(x.e p (d p)).q=(b:Int) then 1 else 0) - (if b=p/\(x.e p (d p)).k=3/\(x.e p (d p)).q=(a:Int) then 1 else 0):=by
 have hA:(cnt (x.e a) 2 b (up d p a):Int)=cnt (x.e a) 2 b (d a)+(if a=p/\(x.e p (d p)).k=2/\(x.e p (d p)).q=(b:Int) then 1 else 0):=by
  by_cases e:a=p
  ·subst e
   rw [qcd]
   rcases zK (hitB (x.e a) 2 b (d a)) with t | t
   ·rw [qfu t,if_pos ⟨rfl,qcz.1 t⟩]
    omega
   ·rw [qiz t,if_neg (fun h=>by rw [qcz.2 h.2] at t;cases t)]
    omega
  ·rw [up_other e,if_neg (fun h=>e h.1)]
   omega
 have hB:(cnt (x.e b) 3 a (up d p b):Int)=cnt (x.e b) 3 a (d b)+(if b=p/\(x.e p (d p)).k=3/\(x.e p (d p)).q=(a:Int) then 1 else 0):=by
  by_cases e:b=p
  ·subst e
   rw [qcd]
   rcases zK (hitB (x.e b) 3 a (d b)) with t | t
   ·rw [qfu t,if_pos ⟨rfl,qcz.1 t⟩]
    omega
   ·rw [qiz t,if_neg (fun h=>by rw [qcz.2 h.2] at t;cases t)]
    omega
  ·rw [up_other e,if_neg (fun h=>e h.1)]
   omega
 unfold Hs.opn;rw [hA,hB];omega
theorem qdp (w:World):
  Calls Tryz.prog 67 #[] w fun e w'=>∃ v,e=.returned v/\qae w' w.heap.size v 0 [0,0,0,0] [] 0/\Below w.heap.size w w':=by
 have hmk:∀ w:World,(Instr.makeSlice 49 (.int .i64 4) (.int .i64 4)).run Tryz.prog w=.ok (.slice (some ⟨w.heap.size,0,none⟩) 4 4) (w.alloc (.cells (madeCells #[.int .i64 0] 4) 3)):=fun w=>qc2 4 (by omega) w;have HM:Hid (∀ w:World,OwnI (w.alloc (.cells (madeCells #[.int .i64 0] 4) 3)) w.heap.size (.slice (some ⟨w.heap.size,0,none⟩) 4 4) [0,0,0,0]):=fun w=>qob w 4 (by omega)
 go_enter Tryz.func67,Tryz.ntmps67
 go_wp2;have hB:w.heap.size<=w.heap.size+1:=by omega
 have hM:=HM.out (w.alloc (oQ1 0 (some ⟨w.heap.size+1,0,none⟩) 4 4 none 0 0 0));rw [World.size_alloc] at hM;refine bodyPost_ret (v:=stV 0 (some ⟨w.heap.size+1,0,none⟩) 4 4 none 0 0 0) (by simp [results,Tryz.results67,go_sem]) rfl ⟨_,rfl,⟨_,_,rfl,hM.mono hB,World.ownsRow_nil _ _ _ _,fun k _=>by simp [Value.ownBlock]⟩,by go_grown⟩
theorem Tl.widen {w:World} {B C C' N:Nat} {p c:Int} {ra:Option Addr} {rn rc:Nat} {oa:Option Addr} {on oc:Nat} {rs os:List Int} (h:Tl w B C N p c ra rn rc oa on oc rs os) (h1:C<=C') (h2:C'<=w.heap.size):Tl w B C' N p c ra rn rc oa on oc rs os:=
 ⟨h.lo,zL h.hi h1,h2,h.box,h.own,fun k hk=>zL (h.up k hk) h1,h.ne⟩
open Go.Deep
theorem qcj (eh:Nat->E3) (kd pr:Int) (n:Nat):(valL eh kd pr n).length=(plN eh kd pr n).length:=by simp [valL]
theorem qeh (eh:Nat->E3) (kd pr:Int) (n:Nat):(plI eh kd pr n).length=(plN eh kd pr n).length:=by simp [plI]
def nthV (eh:Nat->E3) (kd pr:Int) (len:Nat) (n:Int):Int:=if belB n ((plI eh kd pr len).length:Nat)=true then zi (plI eh kd pr len) n.toNat else -1
theorem qnd (eh:Nat->E3) (kd pr:Int):∀ n,∀ q ∈ plN eh kd pr n,q<n
 | 0,q,h=>by simp [plN] at h
 | n+1,q,h=>by
  unfold plN at h
  split at h
  ·simp at h
   rcases h with h | h
   ·have:=qnd eh kd pr n q h
    omega
   ·omega
  ·have:=qnd eh kd pr n q h
   omega
theorem qlh (eh:Nat->E3) (kd pr:Int) (len j:Nat) (hj:j<(plI eh kd pr len).length):∃ q:Nat,zi (plI eh kd pr len) j=(q:Int)/\q<len/\(plN eh kd pr len)[j]? = some q:=by
 have hj':j<(plN eh kd pr len).length:=by rw [qeh] at hj;exact hj
 refine ⟨(plN eh kd pr len)[j],?_,qnd eh kd pr len _ (List.getElem_mem hj'),List.getElem?_eq_getElem hj'⟩;unfold zi plI;rw [List.getD_eq_getElem?_getD,List.getElem?_map,List.getElem?_eq_getElem hj'];rfl
theorem qow {ops:Array Oper} {rest:List Oper} {op:Oper} {act:Act} {Q:Exit->Act->World->Prop} (w:World) (hgd:op.guard=none) (s x:Operand)
  (ho:op.op=.call { callee:=.builtin .append,args:=#[s,x],argTypes:=#[49,49] })
  (B:Nat) (v:Value) (xs:List Int) (hs:act.eval s=v) (hv:OwnI w B v xs) (y:Int) (hx:act.eval x=.slice (some ⟨w.heap.size,0,none⟩) 1 1) (hn:xs.length<=1048576) (hB:B<=w.heap.size)
  (h:∀ v' w',OwnI w' B v' (xs ++ [y])->w.grownBy w' v.ownBlock->(∀ j,v'.ownBlock=some j->v.ownBlock=some j\/w.heap.size<=j)->wpList Tryz.prog ops Q rest (act.put op.dst v') w'):
  wpList Tryz.prog ops Q (op :: rest) act (w.alloc (.cells #[.int .i64 y] 3)):=by
 have hb:Below w.heap.size w (w.alloc (.cells #[.int .i64 y] 3)):=(Below.refl _ _).alloc (Nat.le_refl _) _;refine qbh _ hgd s x ho B 1 v (some ⟨w.heap.size,0,none⟩) xs [y] hs hx (hv.below hb) (.inr ⟨w.heap.size,0,rfl,by simp,fun i hi=>?_⟩) (by simp;omega) (by simp;omega) ?_
 ·have:i=0:=by simp at hi;omega
  subst this;exact zW _ _ _ 0 rfl
 ·intro v' w' o g a
  refine h v' w' o ⟨g.os,g.tape,g.output,zP hb.size g.size,fun k hk hne=>(g.block k (zL hk hb.size) hne).trans (hb.block k hk)⟩ fun j hj=>?_
  rcases a with a | a
  ·exact .inl (a.symm.trans hj)
  ·rw [hj] at a
   simp only [Option.some.injEq] at a;right;rw [a];simp
def Away (w w1 wr:World) (o:Value):Prop:=(∀ j,o.ownBlock=some j->j=w.heap.size\/w1.heap.size<=j)/\(∀ j,w.heap.size<j->j<w1.heap.size->wr.heap[j]? = w1.heap[j]?)/\w1.heap.size<=wr.heap.size
theorem Away.step {w w1 wr w4:World} {o v':Value} (h:Away w w1 wr o) (g:wr.grownBy w4 o.ownBlock) (a:∀ j,v'.ownBlock=some j->o.ownBlock=some j\/wr.heap.size<=j):Away w w1 w4 v':=by
 obtain ⟨h1,h2,h3⟩:=h;refine ⟨fun j hj=>?_,fun j p1 p2=>?_,zP h3 g.size⟩
 ·rcases a j hj with a | a
  ·exact h1 j a
  ·right;omega
 ·rw [g.block j (by omega) (fun e=>?_),h2 j p1 p2]
  rcases h1 j e.symm with e | e <;> omega
theorem Away.sl {w w1 wr:World} {o:Value} (h:Away w w1 wr o) {B cp:Nat} {a0:Option Addr} {xs:List Int} (hB:w.heap.size<B) (hO:OwnI w1 B (.slice a0 xs.length cp) xs):Sl wr a0 xs:=by
 by_cases hx:0<xs.length
 ·obtain ⟨g,cap,e,hg,hl⟩:=hO.block hx
  simp only [Value.slice.injEq] at e;obtain ⟨rfl,-,rfl⟩:=e;refine .inr ⟨g,0,rfl,zL hl h.2.2,fun i hi=>?_⟩;rw [Nat.zero_add,zH (h.2.1 g (by omega) hl)];exact hO.cell hi
 ·exact .inl (List.eq_nil_of_length_eq_zero (by omega))
def valT (eh:Nat->E3) (kd pr:Int) (len j:Nat):List Int:=((plN eh kd pr len).take j).map fun i=>(eh i).v
theorem qvb (eh:Nat->E3) (kd pr:Int) (len j:Nat):(valT eh kd pr len j).length<=j:=by simp [valT];omega
theorem qt3 (eh:Nat->E3) (kd pr:Int) (len:Nat):valT eh kd pr len (plI eh kd pr len).length=valL eh kd pr len:=by
 unfold valT valL;rw [qeh,List.take_length]
theorem qsb {eh:Nat->E3} {kd pr:Int} {len j q:Nat} (h:(plN eh kd pr len)[j]? = some q):valT eh kd pr len (j+1)=valT eh kd pr len j ++ [(eh q).v]:=by
 unfold valT;rw [List.take_add_one,h,List.map_append];rfl
