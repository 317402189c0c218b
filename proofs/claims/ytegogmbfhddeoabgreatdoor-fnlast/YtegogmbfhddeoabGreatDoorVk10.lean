import Derived.Test.YtegogmbfhddeoabGreatDoorVk8
import Derived.ProofKit
import Derived.OpenShut
import Derived.ShutString
import Derived.ChangeOld
import Derived.Test.YtegogmbfhddeoabGreatDoorVk9
namespace Go.Proofs.YtegogmbfhddeoabGreatDoor
set_option maxRecDepth 100000
set_option maxHeartbeats 1000000
open Go.ChangeShapes Go.WideShapes Go.ChangeAt Go.RowKit
theorem Tryz.own:ownKnob Tryz.prog.godebug=none:=by kernel_rfl
theorem Tryz.laidOut:laidOutB Tryz.prog=true:=by kernel_rfl
theorem qul {w:World} {p:Addr} {v:Value} (h:w.cell? p=some v):p.block<w.heap.size:=zJ w p h
open Go.Deep
theorem qea {ops:Array Oper} {rest:List Oper} {op:Oper} {act:Act} {Q:Exit->Act->World->Prop} (w:World) (hgd:op.guard=none) (s x:Operand)
  (ho:op.op=.call { callee:=.builtin .append,args:=#[s,x],argTypes:=#[49,49] })
  (B:Nat) (v:Value) (xs:List Int) (hs:act.eval s=v) (hv:OwnI w B v xs) (y:Int) (hx:act.eval x=.slice (some ⟨w.heap.size,0,none⟩) 1 1) (hn:xs.length<=1048576) (hB:B<=w.heap.size)
  (h:∀ v' w',OwnI w' B v' (xs ++ [y])->Below B w w'->wpList Tryz.prog ops Q rest (act.put op.dst v') w'):
  wpList Tryz.prog ops Q (op :: rest) act (w.alloc (.cells #[.int .i64 y] 3)):=by
 have hb:Below w.heap.size w (w.alloc (.cells #[.int .i64 y] 3)):=(Below.refl _ _).alloc (Nat.le_refl _) _;refine qbh _ hgd s x ho B 1 v (some ⟨w.heap.size,0,none⟩) xs [y] hs hx (hv.below hb) (.inr ⟨w.heap.size,0,rfl,by simp,fun i hi=>?_⟩) (by simp;omega) (by simp;omega) ?_
 ·have:i=0:=by simp at hi;omega
  subst this;exact zW _ _ _ 0 rfl
 ·intro v' w' o g _
  refine h v' w' o (Below.grown (hb.mono hB) g (by simp;omega) (fun k hk=>(hv.lt k hk).1))
theorem qct {ops:Array Oper} {rest:List Oper} {op:Oper} {act:Act} {Q:Exit->Act->World->Prop} (w:World) {N:Nat} (hN:N=w.heap.size) (hgd:op.guard=none) (s x:Operand)
  (ho:op.op=.call { callee:=.builtin .append,args:=#[s,x],argTypes:=#[49,49] })
  (B:Nat) (v:Value) (xs:List Int) (hs:act.eval s=v) (hv:OwnI w B v xs) (y:Int) (hx:act.eval x=.slice (some ⟨N,0,none⟩) 1 1) (hn:xs.length<=1048576) (hB:B<=w.heap.size)
  (h:∀ v' w',OwnI w' B v' (xs ++ [y])->Below B w w'->wpList Tryz.prog ops Q rest (act.put op.dst v') w'):
  wpList Tryz.prog ops Q (op :: rest) act (w.alloc (.cells #[.int .i64 y] 3)):=by
 subst hN;exact qea w hgd s x ho B v xs hs hv y hx hn hB h
theorem OwnI.to {w:World} {B:Nat} {v:Value} {xs ys:List Int} (h:OwnI w B v xs) (e:ys=xs):OwnI w B v ys:=e ▸ h
abbrev dV (p a b c d:Int) (oa:Option Addr) (on oc:Nat) (code:Int):Value:=.agg #[.int .i64 p,.int .i64 a,.int .i64 b,.int .i64 c,.int .i64 d,.slice oa on oc,.int .i64 code]
theorem qch (p a b c d:Int) (oa:Option Addr) (on oc:Nat) (code:Int) (w:World) (h0:0<=p) (h1:p<=1000000000):
  Calls Tryz.prog 151 #[dV p a b c d oa on oc code] w fun e w'=>e=.returned (dV (p+1) a b c d oa on oc code)/\Below w.heap.size w w':=by
 go_enter Tryz.func151,Tryz.ntmps151
 go_wp2;refine bodyPost_ret (v:=dV (p+1) a b c d oa on oc code) (by simp [results,Tryz.results151,go_sem]) rfl ⟨rfl,?_⟩
 go_grown
def set4 (a b c d:Int) (j:Nat) (v:Int):Int × Int × Int × Int:=if j=0 then (v,b,c,d) else if j=1 then (a,v,c,d) else if j=2 then (a,b,v,d) else (a,b,c,v)
theorem qew (p a b c d:Int) (oa:Option Addr) (on oc:Nat) (code:Int) (j:Nat) (v:Int) (w:World) (h0:0<=p) (h1:p<=1000000000) (hj:j<4):
  Calls Tryz.prog 150 #[dV p a b c d oa on oc code,.int .i64 j,.int .i64 v] w fun e w'=>e=.returned (dV (p+1) (set4 a b c d j v).1 (set4 a b c d j v).2.1 (set4 a b c d j v).2.2.1 (set4 a b c d j v).2.2.2 oa on oc code)/\Below w.heap.size w w':=by
 have hh:j=0\/j=1\/j=2\/j=3:=by omega
 rcases hh with rfl | rfl | rfl | rfl
 ·go_enter Tryz.func150,Tryz.ntmps150
  go_wp2_with fail
  refine (qch _ _ _ _ _ _ _ _ _ _ h0 h1).mono ?_;rintro e w1 ⟨rfl,b1⟩;have B1:Hid (Below w.heap.size w w1):=qad (by go_grown) b1 (by simp;omega);obtain ⟨hc1,hf1⟩:=qah b1;clear b1;go_wp2;refine bodyPost_ret (v:=dV (p+1) v b c d oa on oc code) (by simp [results,Tryz.results150,go_sem,hc1]) rfl ⟨rfl,?_⟩;have:=B1.out
  go_grown
 ·go_enter Tryz.func150,Tryz.ntmps150
  go_wp2_with fail
  refine (qch _ _ _ _ _ _ _ _ _ _ h0 h1).mono ?_;rintro e w1 ⟨rfl,b1⟩;have B1:Hid (Below w.heap.size w w1):=qad (by go_grown) b1 (by simp;omega);obtain ⟨hc1,hf1⟩:=qah b1;clear b1;go_wp2;refine bodyPost_ret (v:=dV (p+1) a v c d oa on oc code) (by simp [results,Tryz.results150,go_sem,hc1]) rfl ⟨rfl,?_⟩;have:=B1.out
  go_grown
 ·go_enter Tryz.func150,Tryz.ntmps150
  go_wp2_with fail
  refine (qch _ _ _ _ _ _ _ _ _ _ h0 h1).mono ?_;rintro e w1 ⟨rfl,b1⟩;have B1:Hid (Below w.heap.size w w1):=qad (by go_grown) b1 (by simp;omega);obtain ⟨hc1,hf1⟩:=qah b1;clear b1;go_wp2;refine bodyPost_ret (v:=dV (p+1) a b v d oa on oc code) (by simp [results,Tryz.results150,go_sem,hc1]) rfl ⟨rfl,?_⟩;have:=B1.out
  go_grown
 ·go_enter Tryz.func150,Tryz.ntmps150
  go_wp2_with fail
  refine (qch _ _ _ _ _ _ _ _ _ _ h0 h1).mono ?_;rintro e w1 ⟨rfl,b1⟩;have B1:Hid (Below w.heap.size w w1):=qad (by go_grown) b1 (by simp;omega);obtain ⟨hc1,hf1⟩:=qah b1;clear b1;go_wp2;refine bodyPost_ret (v:=dV (p+1) a b c v oa on oc code) (by simp [results,Tryz.results150,go_sem,hc1]) rfl ⟨rfl,?_⟩;have:=B1.out
  go_grown
theorem qmr (p code:Int) (ra oa:Option Addr) (rc oc:Nat) (a b c d:Int) (os:List Int) (w:World) (ho:os.length<=1048576) (h1:Sl w ra [a,b,c,d]) (h2:Sl w oa os):
  Calls Tryz.prog 101 #[stV p ra 4 rc oa os.length oc code] w fun e w'=>∃ oa' oc',e=.returned (dV p a b c d oa' os.length oc' code)/\OwnI w' w.heap.size (.slice oa' os.length oc') os/\Below w.heap.size w w':=by
 have H1:Hid (Sl w ra [a,b,c,d]):=h1;have H2:Hid (Sl w oa os):=h2;clear h1 h2
 go_enter Tryz.func101,Tryz.ntmps101
 go_wp2_with fail
 refine (qcc ra rc [a,b,c,d] _ (H1.out.below (by go_grown))).mono ?_;rintro e w1 ⟨⟨q0,q1,q2,q3,rfl,hq⟩,b1⟩;have hq':=hq rfl;simp only [List.cons.injEq,and_true] at hq';obtain ⟨rfl,rfl,rfl,rfl⟩:=hq';have B1:Hid (Below w.heap.size w w1):=qad (by go_grown) b1 (by simp;omega);obtain ⟨hc1,hf1⟩:=qah b1;have y1:w.heap.size+1<w1.heap.size:=by have:=b1.size;simp at this;omega
 have y0:w.heap.size<w1.heap.size:=by omega
 clear b1 hq;go_wp2_with fail
 have B2:Hid (Below w.heap.size w (w1.alloc (.cells #[.int .i64 a,.int .i64 b,.int .i64 c,.int .i64 d] 146))):=B1.out.alloc (by omega) _;generalize hW:w1.alloc (.cells #[.int .i64 a,.int .i64 b,.int .i64 c,.int .i64 d] 146)=W at *;have lr:w1.heap.size<W.heap.size:=by rw [<- hW];simp
 have k0:W.cell? ⟨w1.heap.size,0,none⟩=some (.int .i64 a):=by rw [<- hW];simp
 have k1:W.cell? ⟨w1.heap.size,1,none⟩=some (.int .i64 b):=by rw [<- hW];simp
 have k2:W.cell? ⟨w1.heap.size,2,none⟩=some (.int .i64 c):=by rw [<- hW];simp
 have k3:W.cell? ⟨w1.heap.size,3,none⟩=some (.int .i64 d):=by rw [<- hW];simp
 have s0:W.cell? ⟨w.heap.size,0,none⟩=some (.int .i64 p):=by rw [<- hW,zS _ _ y0,hc1 _ _ (by simp;omega)];simp
 have s2:W.cell? ⟨w.heap.size,2,none⟩=some (.slice oa os.length oc):=by rw [<- hW,zS _ _ y0,hc1 _ _ (by simp;omega)];simp
 have s3:W.cell? ⟨w.heap.size,3,none⟩=some (.int .i64 code):=by rw [<- hW,zS _ _ y0,hc1 _ _ (by simp;omega)];simp
 have e0:W.cell? ⟨w.heap.size+1,0,none⟩=some (.int .i64 0):=by rw [<- hW,zS _ _ y1,hc1 _ _ (by simp)];simp
 have e1:W.cell? ⟨w.heap.size+1,1,none⟩=some (.int .i64 0):=by rw [<- hW,zS _ _ y1,hc1 _ _ (by simp)];simp
 have e2:W.cell? ⟨w.heap.size+1,2,none⟩=some (.int .i64 0):=by rw [<- hW,zS _ _ y1,hc1 _ _ (by simp)];simp
 have e3:W.cell? ⟨w.heap.size+1,3,none⟩=some (.int .i64 0):=by rw [<- hW,zS _ _ y1,hc1 _ _ (by simp)];simp
 have e4:W.cell? ⟨w.heap.size+1,4,none⟩=some (.int .i64 0):=by rw [<- hW,zS _ _ y1,hc1 _ _ (by simp)];simp
 have e5:W.cell? ⟨w.heap.size+1,5,none⟩=some (.slice none 0 0):=by rw [<- hW,zS _ _ y1,hc1 _ _ (by simp)];simp
 have e6:W.cell? ⟨w.heap.size+1,6,none⟩=some (.int .i64 0):=by rw [<- hW,zS _ _ y1,hc1 _ _ (by simp)];simp
 have ef:∀ j,W.frozen? ⟨w.heap.size+1,j,none⟩=false:=fun j=>by rw [<- hW,zI (Below.heap_alloc w1 _ _ y1),hf1 _ _ (by simp)];simp
 have l0:w.heap.size<W.heap.size:=by omega
 have l1:w.heap.size+1<W.heap.size:=by omega
 have ne1:w1.heap.size≠w.heap.size+1:=by omega
 have ne2:w.heap.size+1≠w1.heap.size:=by omega
 clear hc1 hf1 hW B1 y0 y1
 go_region_held3 (fun w'=>w'.cell? ⟨w.heap.size,0,none⟩=some (.int .i64 p)/\w'.cell? ⟨w.heap.size,2,none⟩=some (.slice oa os.length oc)/\w'.cell? ⟨w.heap.size,3,none⟩=some (.int .i64 code)/\w'.cell? ⟨w1.heap.size,0,none⟩=some (.int .i64 a)/\w'.cell? ⟨w1.heap.size,1,none⟩=some (.int .i64 b)/\w'.cell? ⟨w1.heap.size,2,none⟩=some (.int .i64 c)/\w'.cell? ⟨w1.heap.size,3,none⟩=some (.int .i64 d)) (go_keep)
  (first|(go_at_call 83;refine (qe5 oa oc os _ ho (by exact H2.out.below B2.out.drew)).mono ?_;rintro e w2 ⟨v2,rfl,o2,b2'⟩;have b2:Below W.heap.size W w2:=(Below.refl W.heap.size W).drew.trans b2';obtain ⟨oa2,oc2,rfl,-⟩:=o2.form;obtain ⟨hc2,hf2⟩:=qah b2;have O2:Hid (OwnI w2 W.heap.size (.slice oa2 os.length oc2) os):=o2;have B3:Hid (Below w.heap.size w w2):=B2.out.trans (b2.mono B2.out.size);clear o2 b2 b2'))
 go_wp2;refine bodyPost_ret (v:=dV p a b c d oa2 os.length oc2 code) (by simp [results,Tryz.results101,go_sem,hc2,l1,e0,e1,e2,e3,e4,e5,e6]) rfl ⟨_,_,rfl,?_,?_⟩
 ·refine OwnI.mono (B:=W.heap.size) ?_ (by omega)
  repeat (refine OwnI.setBelow ?_ (by simpa using by omega) _)
  exact O2.out
 ·have:=B3.out
  go_grown
theorem qr3 (p a b c d:Int) (oa:Option Addr) (oc:Nat) (os:List Int) (code:Int) (B:Nat) (w:World) (hB:B<=w.heap.size) (ho:OwnI w B (.slice oa os.length oc) os):
  Calls Tryz.prog 104 #[dV p a b c d oa os.length oc code] w fun e w'=>∃ v,e=.returned v/\qae w' B v p [a,b,c,d] os code/\Below w.heap.size w w':=by
 have HO:Hid (OwnI w B (.slice oa os.length oc) os):=ho;clear ho
 go_enter Tryz.func104,Tryz.ntmps104
 go_wp2_with fail
 have B2:Hid (Below w.heap.size w ((w.alloc (oQ2 p a b c d oa os.length oc code)).alloc (zQ0))):=by
  show Below _ _ _
  go_grown
 have k0:((w.alloc (oQ2 p a b c d oa os.length oc code)).alloc (zQ0)).cell? ⟨w.heap.size,0,none⟩=some (.int .i64 p):=(zS _ _ (by simp)).trans (by simp);have k1:((w.alloc (oQ2 p a b c d oa os.length oc code)).alloc (zQ0)).cell? ⟨w.heap.size,1,none⟩=some (.int .i64 a):=(zS _ _ (by simp)).trans (by simp);have k2:((w.alloc (oQ2 p a b c d oa os.length oc code)).alloc (zQ0)).cell? ⟨w.heap.size,2,none⟩=some (.int .i64 b):=(zS _ _ (by simp)).trans (by simp);have k3:((w.alloc (oQ2 p a b c d oa os.length oc code)).alloc (zQ0)).cell? ⟨w.heap.size,3,none⟩=some (.int .i64 c):=(zS _ _ (by simp)).trans (by simp);have k4:((w.alloc (oQ2 p a b c d oa os.length oc code)).alloc (zQ0)).cell? ⟨w.heap.size,4,none⟩=some (.int .i64 d):=(zS _ _ (by simp)).trans (by simp);have k5:((w.alloc (oQ2 p a b c d oa os.length oc code)).alloc (zQ0)).cell? ⟨w.heap.size,5,none⟩=some (.slice oa os.length oc):=(zS _ _ (by simp)).trans (by simp);have k6:((w.alloc (oQ2 p a b c d oa os.length oc code)).alloc (zQ0)).cell? ⟨w.heap.size,6,none⟩=some (.int .i64 code):=(zS _ _ (by simp)).trans (by simp);have e0:((w.alloc (oQ2 p a b c d oa os.length oc code)).alloc (zQ0)).cell? ⟨w.heap.size+1,0,none⟩=some (.int .i64 0):=by simp
 have e1:((w.alloc (oQ2 p a b c d oa os.length oc code)).alloc (zQ0)).cell? ⟨w.heap.size+1,1,none⟩=some (.slice none 0 0):=by simp
 have e2:((w.alloc (oQ2 p a b c d oa os.length oc code)).alloc (zQ0)).cell? ⟨w.heap.size+1,2,none⟩=some (.slice none 0 0):=by simp
 have e3:((w.alloc (oQ2 p a b c d oa os.length oc code)).alloc (zQ0)).cell? ⟨w.heap.size+1,3,none⟩=some (.int .i64 0):=by simp
 have ef:∀ j,((w.alloc (oQ2 p a b c d oa os.length oc code)).alloc (zQ0)).frozen? ⟨w.heap.size+1,j,none⟩=false:=fun j=>by simp
 have l1:w.heap.size+1<((w.alloc (oQ2 p a b c d oa os.length oc code)).alloc (zQ0)).heap.size:=by simp
 generalize (w.alloc (oQ2 p a b c d oa os.length oc code)).alloc (zQ0)=W at *;have l0:w.heap.size<W.heap.size:=by omega
 have HS : Hid (Sl W (some ⟨w.heap.size, 1, none⟩) [a, b, c, d]) := .inr ⟨_, _, rfl, l0, fun i hi => by
  match i,hi with
  | 0,_=>exact k1
  | 1,_=>exact k2
  | 2,_=>exact k3
  | 3,_=>exact k4⟩
 have ne2:w.heap.size+1≠w.heap.size:=by omega
 have ne1:w.heap.size≠w.heap.size+1:=by omega
 go_region_held3 (fun w'=>w'.cell? ⟨w.heap.size,0,none⟩=some (.int .i64 p)/\w'.cell? ⟨w.heap.size,5,none⟩=some (.slice oa os.length oc)/\w'.cell? ⟨w.heap.size,6,none⟩=some (.int .i64 code)) (go_keep)
  (first|(go_at_call 83;refine (qe5 _ _ [a,b,c,d] _ (by simp) (by exact HS.out.below ((Below.refl W.heap.size W).drew))).mono ?_;rintro e w2 ⟨v2,rfl,o2,b2'⟩;have b2:Below W.heap.size W w2:=(Below.refl W.heap.size W).drew.trans b2';obtain ⟨ra2,rc2,hv2,-⟩:=o2.form;rw [show [a,b,c,d].length=4 from rfl] at hv2;subst hv2;obtain ⟨hc2,hf2⟩:=qah b2;have O2:Hid (OwnI w2 W.heap.size (.slice ra2 4 rc2) [a,b,c,d]):=o2;have P2:Hid (OwnI w2 B (.slice oa os.length oc) os):=(HO.out.below B2.out).below b2;have B3:Hid (Below w.heap.size w w2):=B2.out.trans (b2.mono B2.out.size);clear o2 b2 b2'))
 have lo:∀ j,(Value.slice oa os.length oc).ownBlock=some j->j<w.heap.size:=fun j hj=>(HO.out.lt j hj).2;have LO:Hid (∀ j,(Value.slice oa os.length oc).ownBlock=some j->j<w.heap.size):=lo;clear lo HS k0 k1 k2 k3 k4 k5 k6;go_wp2;refine bodyPost_ret (v:=stV p ra2 4 rc2 oa os.length oc code) (by simp [results,Tryz.results104,go_sem,hc2,l1,e0,e1,e2,e3]) rfl ⟨_,rfl,⟨_,_,rfl,?_,?_,?_⟩,?_⟩
 ·refine OwnI.mono (B:=W.heap.size) ?_ (by omega)
  repeat (refine OwnI.setBelow ?_ (by simpa using l1) _)
  exact O2.out
 ·repeat (refine OwnI.setOther ?_ (fun e=>by have:=LO.out _ e;simp at this;omega) _)
  exact P2.out
 ·intro j h1 h2
  have:=(O2.out.lt j h1).1;have:=LO.out j h2;omega
 ·have:=B3.out
  go_grown
