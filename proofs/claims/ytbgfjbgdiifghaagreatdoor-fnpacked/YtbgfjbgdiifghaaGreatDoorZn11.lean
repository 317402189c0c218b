import Derived.Test.YtbgfjbgdiifghaaGreatDoorZn6
namespace Go.Proofs.YtbgfjbgdiifghaaGreatDoor
open Go.Proofs.Tryz
set_option maxRecDepth 100000
set_option maxHeartbeats 4000000
open Go.RowKit
theorem Cur.setOther {w:World} {W0 c len cap:Nat} {a0:Option Addr} (h:Cur w W0 c a0 len cap) {p:Addr} (hp:p.block≠c) (hW:W0<=p.block) (v:Value):Cur (w.setCell p v) W0 c a0 len cap:=
 h.kept (row:=some p.block) (zV (World.grownBy.refl w _) (.inl rfl) v) (fun e=>hp (Option.some.inj e).symm) (fun k hk=>by rw [<- Option.some.inj hk];exact hW)
abbrev put5 (w:World) (N:Nat) (o r a b n:Int):World:=
 ((((w.setCell (aQ N 0) (iV o)).setCell (aQ N 1) (iV r)).setCell (aQ N 2) (iV a)).setCell (aQ N 3) (iV b)).setCell (aQ N 4) (iV n)
theorem qa0 {w:World} {W0 c len cap N:Nat} {a0:Option Addr} (h:Cur w W0 c a0 len cap) (hp:N≠c) (hW:W0<=N) (o r a b n:Int):Cur (put5 w N o r a b n) W0 c a0 len cap:=
 ((((h.setOther (p:=(aQ N 0)) hp hW _).setOther (p:=(aQ N 1)) hp hW _).setOther (p:=(aQ N 2)) hp hW _).setOther (p:=(aQ N 3)) hp hW _).setOther (p:=(aQ N 4)) hp hW _
theorem qap {w w1:World} {row:Option Nat} {N:Nat} (h:w.grownBy w1 row) (hN:w.heap.size<=N) (o r a b n:Int):w.grownBy (put5 w1 N o r a b n) row:=
 zV (zV (zV (zV (zV h (.inr hN) _) (.inr hN) _) (.inr hN) _) (.inr hN) _) (.inr hN) _
def Five (w:World) (N:Nat) (o r a b n:Int):Prop:=w.heap[N]? = some (.cells #[iV o,iV r,iV a,iV b,iV n] 45 (0,0))
theorem Five.cells {w:World} {N:Nat} {o r a b n:Int} (h:Five w N o r a b n):(w.cell? ⟨N,0,none⟩=some (iV o)/\w.cell? ⟨N,1,none⟩=some (iV r)/\w.cell? ⟨N,2,none⟩=some (iV a)/\w.cell? ⟨N,3,none⟩=some (iV b)/\w.cell? ⟨N,4,none⟩=some (iV n))/\∀ i,w.frozen? ⟨N,i,none⟩=false:=by
 unfold Five at h;simp [World.cell?,World.frozen?,h]
theorem Five.lt {w:World} {N:Nat} {o r a b n:Int} (h:Five w N o r a b n):N<w.heap.size:=(Array.getElem?_eq_some_iff.1 h).1
theorem Five.kept {w w':World} {N:Nat} {row:Option Nat} {o r a b n:Int} (h:Five w N o r a b n) (hg:w.grownBy w' row) (hne:some N≠row):Five w' N o r a b n:=
 (hg.block N h.lt hne).trans h
theorem ql8 (W0 len cap:Nat) (a0:Option Addr) (w:World) (hB:qb0 w W0 a0 len) (hW:W0<=w.heap.size) (ln:len<=1048576):
  Calls prog 14 #[.slice a0 len cap] w fun e w'=>e=.returned (.pointer (some (aQ w.heap.size 0)))/\Cur w' W0 w.heap.size a0 len cap/\w.grownBy w' none:=by
 have ln':(len:Int)<=1048576:=by omega
 have HB:Hid (qb0 w W0 a0 len):=hB;clear hB
 go_enter func14,ntmps14
 go_wp2_with fail
 go_loop [3,4] (fun h i=>∃ (k:Nat) (x:Int),k<=len/\i=.int .i64 k/\h=.int .i64 x) (fun _ i=>len - (intOf i).toNat)
 case atStart=>exact ⟨0,_,nD _,rfl,rfl⟩
 case round=>
  obtain ⟨k,x,hk,rfl,rfl⟩:=hrel;by_cases hlt:k<len/\k<4000
  ·obtain ⟨h1,h2⟩:=hlt
   have h1':(k:Int)<(len:Int):=by omega
   have h2':(k:Int)<4000:=by omega
   rcases HB.out with hb | ⟨b,off,rfl,hbW,hz⟩
   ·omega
   obtain ⟨z,cz,z0,z1⟩:=hz k h1;clear hz;go_wp2
   go_round
   case rel=>exact ⟨k+1,_,by omega,by go_num,rfl⟩
   case measure=>simp [intOf];omega
  ·have fin:∀ x:Int,Cur (w.alloc (.cells #[.slice a0 len cap,iV 0,iV x] 81)) W0 w.heap.size a0 len cap/\w.grownBy (w.alloc (.cells #[.slice a0 len cap,iV 0,iV x] 81)) none:=fun x=>
    ⟨⟨⟨0,x,by simp,by simp,by simp⟩,fun o=>by simp,by simp,hW,HB.kept fun j hj=>Below.heap_alloc w _ j (by omega),ln⟩,World.grownBy_alloc w _ none⟩
   have FIN:Hid (∀ x:Int,Cur (w.alloc (.cells #[.slice a0 len cap,iV 0,iV x] 81)) W0 w.heap.size a0 len cap/\w.grownBy (w.alloc (.cells #[.slice a0 len cap,iV 0,iV x] 81)) none):=fin;clear fin;by_cases h1:k<len
   ·have h1':(k:Int)<(len:Int):=by omega
    have h2':¬ (k:Int)<4000:=by omega
    go_wp2;go_ret;exact ⟨rfl,FIN.out _⟩
   ·have h1':¬ (k:Int)<(len:Int):=by omega
    go_wp2;go_ret;exact ⟨rfl,FIN.out _⟩
theorem qj3 (W0 c len cap:Nat) (a0:Option Addr) (places procs:Int) (w:World) (hc:Cur w W0 c a0 len cap) (p1:1<=places) (p2:places<=256) (q1:1<=procs) (q2:procs<=256):
  Calls prog 105 #[.pointer (some (aQ c 0)),iV places,iV procs] w fun e w'=>∃ o r a b n:Int,e=.returned (insV o r a b n)/\Cur w' W0 c a0 len cap/\w.grownBy w' (some c):=by
 have HC0:Hid (Cur w W0 c a0 len cap):=hc;have hcl:=hc.lt;have hcg:=hc.ge;clear hc
 go_enter func105,ntmps105
 go_wp2_with fail
 have HN0:Hid (Five (w.alloc (zQ2)) w.heap.size 0 0 0 0 0):=heap_alloc_new w _;have hNc:some w.heap.size≠some c:=by simp;omega
 have HG0:Hid (w.grownBy (w.alloc (zQ2)) (some c)):=World.grownBy_alloc w _ _;refine (zY W0 c len cap a0 _ _ (HC0.alloc _) (by omega) (by omega)).mono ?_;rintro e w1 ⟨r,rfl,⟨rL,rH⟩,hc1,hg1⟩;have HN1:Hid (Five w1 w.heap.size 0 0 0 0 0):=HN0.kept hg1 hNc;have HG1:Hid (w.grownBy w1 (some c)):=HG0.trans hg1;have HC1:Hid (Cur w1 W0 c a0 len cap):=hc1;clear hc1 hg1 HC0 HN0 HG0;go_wp2_with fail
 refine (zY W0 c len cap a0 _ _ HC1.out (by omega) (by omega)).mono ?_;rintro e w2 ⟨a,rfl,⟨aL,aH⟩,hc2,hg2⟩;have HN2:Hid (Five w2 w.heap.size 0 0 0 0 0):=HN1.kept hg2 hNc;have HG2:Hid (w.grownBy w2 (some c)):=HG1.trans hg2;have HC2:Hid (Cur w2 W0 c a0 len cap):=hc2;clear hc2 hg2 HC1 HN1 HG1;go_wp2_with fail
 refine (zY W0 c len cap a0 _ _ HC2.out (by omega) (by omega)).mono ?_;rintro e w3 ⟨b,rfl,⟨bL,bH⟩,hc3,hg3⟩;have HN3:Hid (Five w3 w.heap.size 0 0 0 0 0):=HN2.kept hg3 hNc;have HG3:Hid (w.grownBy w3 (some c)):=HG2.trans hg3;have HC3:Hid (Cur w3 W0 c a0 len cap):=hc3;clear hc3 hg3 HC2 HN2 HG2;go_wp2_with fail
 refine (zY W0 c len cap a0 _ _ HC3.out (by omega) (by omega)).mono ?_;rintro e w4 ⟨x,rfl,⟨xL,xH⟩,hc4,hg4⟩;have HN4:Hid (Five w4 w.heap.size 0 0 0 0 0):=HN3.kept hg4 hNc;have HG4:Hid (w.grownBy w4 (some c)):=HG3.trans hg4;have HC4:Hid (Cur w4 W0 c a0 len cap):=hc4;clear hc4 hg4 HC3 HN3 HG3;have hx:x=0\/x=1\/x=2\/x=3\/x=4\/x=5\/x=6\/x=7\/x=8\/x=9\/x=10\/x=11\/x=12\/x=13:=by omega
 clear xL xH
 rcases hx with rfl | rfl | rfl | rfl | rfl | rfl | rfl | rfl | rfl | rfl | rfl | rfl | rfl | rfl
 ·go_wp2_with fail
  refine (zY W0 c len cap a0 _ _ HC4.out (by omega) (by omega)).mono ?_;rintro e w5 ⟨y,rfl,⟨yL,yH⟩,hc5,hg5⟩;have HN5:Hid (Five w5 w.heap.size 0 0 0 0 0):=HN4.kept hg5 hNc;have HG5:Hid (w.grownBy w5 (some c)):=HG4.trans hg5;have HC5:Hid (Cur w5 W0 c a0 len cap):=hc5;clear hc5 hg5 HC4 HN4 HG4;obtain ⟨⟨e0,e1,e2,e3,e4⟩,fz⟩:=HN5.cells;have z0:=fz 0;have z1:=fz 1;have z2:=fz 2;have z3:=fz 3;have z4:=fz 4;clear fz;go_wp2;exact bodyPost_ret (v:=insV 1 r 0 0 (y - 2)) (by simp [results,results105,go_sem,e0,e1,e2,e3,e4]) rfl ⟨_,_,_,_,_,rfl,qa0 HC5.out (by omega) (by omega) _ _ _ _ _,qap HG5.out (nA _) _ _ _ _ _⟩
 ·go_wp2_with fail
  refine (zY W0 c len cap a0 _ _ HC4.out (by omega) (by omega)).mono ?_;rintro e w5 ⟨y,rfl,⟨yL,yH⟩,hc5,hg5⟩;have HN5:Hid (Five w5 w.heap.size 0 0 0 0 0):=HN4.kept hg5 hNc;have HG5:Hid (w.grownBy w5 (some c)):=HG4.trans hg5;have HC5:Hid (Cur w5 W0 c a0 len cap):=hc5;clear hc5 hg5 HC4 HN4 HG4;obtain ⟨⟨e0,e1,e2,e3,e4⟩,fz⟩:=HN5.cells;have z0:=fz 0;have z1:=fz 1;have z2:=fz 2;have z3:=fz 3;have z4:=fz 4;clear fz;go_wp2;exact bodyPost_ret (v:=insV 1 r 0 0 (y - 2)) (by simp [results,results105,go_sem,e0,e1,e2,e3,e4]) rfl ⟨_,_,_,_,_,rfl,qa0 HC5.out (by omega) (by omega) _ _ _ _ _,qap HG5.out (nA _) _ _ _ _ _⟩
 ·go_wp2_with fail
  refine (zY W0 c len cap a0 _ _ HC4.out (by omega) (by omega)).mono ?_;rintro e w5 ⟨y,rfl,⟨yL,yH⟩,hc5,hg5⟩;have HN5:Hid (Five w5 w.heap.size 0 0 0 0 0):=HN4.kept hg5 hNc;have HG5:Hid (w.grownBy w5 (some c)):=HG4.trans hg5;have HC5:Hid (Cur w5 W0 c a0 len cap):=hc5;clear hc5 hg5 HC4 HN4 HG4;obtain ⟨⟨e0,e1,e2,e3,e4⟩,fz⟩:=HN5.cells;have z0:=fz 0;have z1:=fz 1;have z2:=fz 2;have z3:=fz 3;have z4:=fz 4;clear fz;go_wp2;exact bodyPost_ret (v:=insV (2+y) r a b 0) (by simp [results,results105,go_sem,e0,e1,e2,e3,e4]) rfl ⟨_,_,_,_,_,rfl,qa0 HC5.out (by omega) (by omega) _ _ _ _ _,qap HG5.out (nA _) _ _ _ _ _⟩
 ·go_wp2_with fail
  refine (zY W0 c len cap a0 _ _ HC4.out (by omega) (by omega)).mono ?_;rintro e w5 ⟨y,rfl,⟨yL,yH⟩,hc5,hg5⟩;have HN5:Hid (Five w5 w.heap.size 0 0 0 0 0):=HN4.kept hg5 hNc;have HG5:Hid (w.grownBy w5 (some c)):=HG4.trans hg5;have HC5:Hid (Cur w5 W0 c a0 len cap):=hc5;clear hc5 hg5 HC4 HN4 HG4;obtain ⟨⟨e0,e1,e2,e3,e4⟩,fz⟩:=HN5.cells;have z0:=fz 0;have z1:=fz 1;have z2:=fz 2;have z3:=fz 3;have z4:=fz 4;clear fz;go_wp2;exact bodyPost_ret (v:=insV (2+y) r a b 0) (by simp [results,results105,go_sem,e0,e1,e2,e3,e4]) rfl ⟨_,_,_,_,_,rfl,qa0 HC5.out (by omega) (by omega) _ _ _ _ _,qap HG5.out (nA _) _ _ _ _ _⟩
 ·go_wp2_with fail
  refine (zY W0 c len cap a0 _ _ HC4.out (by omega) (by omega)).mono ?_;rintro e w5 ⟨y,rfl,⟨yL,yH⟩,hc5,hg5⟩;have HN5:Hid (Five w5 w.heap.size 0 0 0 0 0):=HN4.kept hg5 hNc;have HG5:Hid (w.grownBy w5 (some c)):=HG4.trans hg5;have HC5:Hid (Cur w5 W0 c a0 len cap):=hc5;clear hc5 hg5 HC4 HN4 HG4;obtain ⟨⟨e0,e1,e2,e3,e4⟩,fz⟩:=HN5.cells;have z0:=fz 0;have z1:=fz 1;have z2:=fz 2;have z3:=fz 3;have z4:=fz 4;clear fz;go_wp2;exact bodyPost_ret (v:=insV 6 0 a 0 y) (by simp [results,results105,go_sem,e0,e1,e2,e3,e4]) rfl ⟨_,_,_,_,_,rfl,qa0 HC5.out (by omega) (by omega) _ _ _ _ _,qap HG5.out (nA _) _ _ _ _ _⟩
 ·go_wp2_with fail
  refine (zY W0 c len cap a0 _ _ HC4.out (by omega) (by omega)).mono ?_;rintro e w5 ⟨y,rfl,⟨yL,yH⟩,hc5,hg5⟩;have HN5:Hid (Five w5 w.heap.size 0 0 0 0 0):=HN4.kept hg5 hNc;have HG5:Hid (w.grownBy w5 (some c)):=HG4.trans hg5;have HC5:Hid (Cur w5 W0 c a0 len cap):=hc5;clear hc5 hg5 HC4 HN4 HG4;obtain ⟨⟨e0,e1,e2,e3,e4⟩,fz⟩:=HN5.cells;have z0:=fz 0;have z1:=fz 1;have z2:=fz 2;have z3:=fz 3;have z4:=fz 4;clear fz;go_wp2;exact bodyPost_ret (v:=insV 6 0 a 0 y) (by simp [results,results105,go_sem,e0,e1,e2,e3,e4]) rfl ⟨_,_,_,_,_,rfl,qa0 HC5.out (by omega) (by omega) _ _ _ _ _,qap HG5.out (nA _) _ _ _ _ _⟩
 ·go_wp2_with fail
  refine (zY W0 c len cap a0 _ _ HC4.out (by omega) (by omega)).mono ?_;rintro e w5 ⟨y,rfl,⟨yL,yH⟩,hc5,hg5⟩;have HN5:Hid (Five w5 w.heap.size 0 0 0 0 0):=HN4.kept hg5 hNc;have HG5:Hid (w.grownBy w5 (some c)):=HG4.trans hg5;have HC5:Hid (Cur w5 W0 c a0 len cap):=hc5;clear hc5 hg5 HC4 HN4 HG4;obtain ⟨⟨e0,e1,e2,e3,e4⟩,fz⟩:=HN5.cells;have z0:=fz 0;have z1:=fz 1;have z2:=fz 2;have z3:=fz 3;have z4:=fz 4;clear fz;go_wp2;exact bodyPost_ret (v:=insV 6 0 a 0 y) (by simp [results,results105,go_sem,e0,e1,e2,e3,e4]) rfl ⟨_,_,_,_,_,rfl,qa0 HC5.out (by omega) (by omega) _ _ _ _ _,qap HG5.out (nA _) _ _ _ _ _⟩
 ·go_wp2_with fail
  refine (qb3 W0 c len cap a0 _ _ HC4.out (by omega) (by omega)).mono ?_;rintro e w5 ⟨t,rfl,hc5,hg5⟩;have HN5:Hid (Five w5 w.heap.size 0 0 0 0 0):=HN4.kept hg5 hNc;have HG5:Hid (w.grownBy w5 (some c)):=HG4.trans hg5;have HC5:Hid (Cur w5 W0 c a0 len cap):=hc5;clear hc5 hg5 HC4 HN4 HG4;cases t
  case true=>
   obtain ⟨⟨e0,e1,e2,e3,e4⟩,fz⟩:=HN5.cells;have z0:=fz 0;have z1:=fz 1;have z2:=fz 2;have z3:=fz 3;have z4:=fz 4;clear fz;go_wp2;exact bodyPost_ret (v:=insV 7 r 0 0 9) (by simp [results,results105,go_sem,e0,e1,e2,e3,e4]) rfl ⟨_,_,_,_,_,rfl,qa0 HC5.out (by omega) (by omega) _ _ _ _ _,qap HG5.out (nA _) _ _ _ _ _⟩
  case false=>
   go_wp2_with fail
   refine (zY W0 c len cap a0 _ _ HC5.out (by omega) (by omega)).mono ?_;rintro e w6 ⟨y,rfl,⟨yL,yH⟩,hc6,hg6⟩;have HN6:Hid (Five w6 w.heap.size 0 0 0 0 0):=HN5.kept hg6 hNc;have HG6:Hid (w.grownBy w6 (some c)):=HG5.trans hg6;have HC6:Hid (Cur w6 W0 c a0 len cap):=hc6;clear hc6 hg6 HC5 HN5 HG5;obtain ⟨⟨e0,e1,e2,e3,e4⟩,fz⟩:=HN6.cells;have z0:=fz 0;have z1:=fz 1;have z2:=fz 2;have z3:=fz 3;have z4:=fz 4;clear fz;go_wp2;exact bodyPost_ret (v:=insV 7 r 0 0 y) (by simp [results,results105,go_sem,e0,e1,e2,e3,e4]) rfl ⟨_,_,_,_,_,rfl,qa0 HC6.out (by omega) (by omega) _ _ _ _ _,qap HG6.out (nA _) _ _ _ _ _⟩
 ·go_wp2_with fail
  refine (qb3 W0 c len cap a0 _ _ HC4.out (by omega) (by omega)).mono ?_;rintro e w5 ⟨t,rfl,hc5,hg5⟩;have HN5:Hid (Five w5 w.heap.size 0 0 0 0 0):=HN4.kept hg5 hNc;have HG5:Hid (w.grownBy w5 (some c)):=HG4.trans hg5;have HC5:Hid (Cur w5 W0 c a0 len cap):=hc5;clear hc5 hg5 HC4 HN4 HG4;cases t
  case true=>
   obtain ⟨⟨e0,e1,e2,e3,e4⟩,fz⟩:=HN5.cells;have z0:=fz 0;have z1:=fz 1;have z2:=fz 2;have z3:=fz 3;have z4:=fz 4;clear fz;go_wp2;exact bodyPost_ret (v:=insV 7 r 0 0 9) (by simp [results,results105,go_sem,e0,e1,e2,e3,e4]) rfl ⟨_,_,_,_,_,rfl,qa0 HC5.out (by omega) (by omega) _ _ _ _ _,qap HG5.out (nA _) _ _ _ _ _⟩
  case false=>
   go_wp2_with fail
   refine (zY W0 c len cap a0 _ _ HC5.out (by omega) (by omega)).mono ?_;rintro e w6 ⟨y,rfl,⟨yL,yH⟩,hc6,hg6⟩;have HN6:Hid (Five w6 w.heap.size 0 0 0 0 0):=HN5.kept hg6 hNc;have HG6:Hid (w.grownBy w6 (some c)):=HG5.trans hg6;have HC6:Hid (Cur w6 W0 c a0 len cap):=hc6;clear hc6 hg6 HC5 HN5 HG5;obtain ⟨⟨e0,e1,e2,e3,e4⟩,fz⟩:=HN6.cells;have z0:=fz 0;have z1:=fz 1;have z2:=fz 2;have z3:=fz 3;have z4:=fz 4;clear fz;go_wp2;exact bodyPost_ret (v:=insV 7 r 0 0 y) (by simp [results,results105,go_sem,e0,e1,e2,e3,e4]) rfl ⟨_,_,_,_,_,rfl,qa0 HC6.out (by omega) (by omega) _ _ _ _ _,qap HG6.out (nA _) _ _ _ _ _⟩
 ·go_wp2_with fail
  refine (qb3 W0 c len cap a0 _ _ HC4.out (by omega) (by omega)).mono ?_;rintro e w5 ⟨t,rfl,hc5,hg5⟩;have HN5:Hid (Five w5 w.heap.size 0 0 0 0 0):=HN4.kept hg5 hNc;have HG5:Hid (w.grownBy w5 (some c)):=HG4.trans hg5;have HC5:Hid (Cur w5 W0 c a0 len cap):=hc5;clear hc5 hg5 HC4 HN4 HG4;cases t
  case true=>
   obtain ⟨⟨e0,e1,e2,e3,e4⟩,fz⟩:=HN5.cells;have z0:=fz 0;have z1:=fz 1;have z2:=fz 2;have z3:=fz 3;have z4:=fz 4;clear fz;go_wp2;exact bodyPost_ret (v:=insV 7 r 0 0 9) (by simp [results,results105,go_sem,e0,e1,e2,e3,e4]) rfl ⟨_,_,_,_,_,rfl,qa0 HC5.out (by omega) (by omega) _ _ _ _ _,qap HG5.out (nA _) _ _ _ _ _⟩
  case false=>
   go_wp2_with fail
   refine (zY W0 c len cap a0 _ _ HC5.out (by omega) (by omega)).mono ?_;rintro e w6 ⟨y,rfl,⟨yL,yH⟩,hc6,hg6⟩;have HN6:Hid (Five w6 w.heap.size 0 0 0 0 0):=HN5.kept hg6 hNc;have HG6:Hid (w.grownBy w6 (some c)):=HG5.trans hg6;have HC6:Hid (Cur w6 W0 c a0 len cap):=hc6;clear hc6 hg6 HC5 HN5 HG5;obtain ⟨⟨e0,e1,e2,e3,e4⟩,fz⟩:=HN6.cells;have z0:=fz 0;have z1:=fz 1;have z2:=fz 2;have z3:=fz 3;have z4:=fz 4;clear fz;go_wp2;exact bodyPost_ret (v:=insV 7 r 0 0 y) (by simp [results,results105,go_sem,e0,e1,e2,e3,e4]) rfl ⟨_,_,_,_,_,rfl,qa0 HC6.out (by omega) (by omega) _ _ _ _ _,qap HG6.out (nA _) _ _ _ _ _⟩
 ·obtain ⟨⟨e0,e1,e2,e3,e4⟩,fz⟩:=HN4.cells
  have z0:=fz 0;have z1:=fz 1;have z2:=fz 2;have z3:=fz 3;have z4:=fz 4;clear fz;go_wp2;exact bodyPost_ret (v:=insV 8 0 a 0 0) (by simp [results,results105,go_sem,e0,e1,e2,e3,e4]) rfl ⟨_,_,_,_,_,rfl,qa0 HC4.out (by omega) (by omega) _ _ _ _ _,qap HG4.out (nA _) _ _ _ _ _⟩
 ·go_wp2_with fail
  refine (zY W0 c len cap a0 _ _ HC4.out (by omega) (by omega)).mono ?_;rintro e w5 ⟨y,rfl,⟨yL,yH⟩,hc5,hg5⟩;have HN5:Hid (Five w5 w.heap.size 0 0 0 0 0):=HN4.kept hg5 hNc;have HG5:Hid (w.grownBy w5 (some c)):=HG4.trans hg5;have HC5:Hid (Cur w5 W0 c a0 len cap):=hc5;clear hc5 hg5 HC4 HN4 HG4;obtain ⟨⟨e0,e1,e2,e3,e4⟩,fz⟩:=HN5.cells;have z0:=fz 0;have z1:=fz 1;have z2:=fz 2;have z3:=fz 3;have z4:=fz 4;clear fz;go_wp2;exact bodyPost_ret (v:=insV 9 0 0 0 y) (by simp [results,results105,go_sem,e0,e1,e2,e3,e4]) rfl ⟨_,_,_,_,_,rfl,qa0 HC5.out (by omega) (by omega) _ _ _ _ _,qap HG5.out (nA _) _ _ _ _ _⟩
 ·go_wp2_with fail
  refine (zY W0 c len cap a0 _ _ HC4.out (by omega) (by omega)).mono ?_;rintro e w5 ⟨y,rfl,⟨yL,yH⟩,hc5,hg5⟩;have HN5:Hid (Five w5 w.heap.size 0 0 0 0 0):=HN4.kept hg5 hNc;have HG5:Hid (w.grownBy w5 (some c)):=HG4.trans hg5;have HC5:Hid (Cur w5 W0 c a0 len cap):=hc5;clear hc5 hg5 HC4 HN4 HG4;obtain ⟨⟨e0,e1,e2,e3,e4⟩,fz⟩:=HN5.cells;have z0:=fz 0;have z1:=fz 1;have z2:=fz 2;have z3:=fz 3;have z4:=fz 4;clear fz;go_wp2;exact bodyPost_ret (v:=insV 10 0 a 0 y) (by simp [results,results105,go_sem,e0,e1,e2,e3,e4]) rfl ⟨_,_,_,_,_,rfl,qa0 HC5.out (by omega) (by omega) _ _ _ _ _,qap HG5.out (nA _) _ _ _ _ _⟩
 ·obtain ⟨⟨e0,e1,e2,e3,e4⟩,fz⟩:=HN4.cells
  have z0:=fz 0;have z1:=fz 1;have z2:=fz 2;have z3:=fz 3;have z4:=fz 4;clear fz;go_wp2;exact bodyPost_ret (v:=insV 8 0 a 0 0) (by simp [results,results105,go_sem,e0,e1,e2,e3,e4]) rfl ⟨_,_,_,_,_,rfl,qa0 HC4.out (by omega) (by omega) _ _ _ _ _,qap HG4.out (nA _) _ _ _ _ _⟩
def qij (j:Nat):Int:=[(-1:Int),0,3,4,9,29,30,1000000000,1000000001].getD j 0
theorem qu9 (w:World):qh0 (w.alloc (.cells #[iV (-1),iV 0,iV 3,iV 4,iV 9,iV 29,iV 30,iV 1000000000,iV 1000000001] 3)) w.heap.size 9 qij:=by
 intro j hj
 match j,hj with
 | 0,_=>simp [qij]
 | 1,_=>simp [qij]
 | 2,_=>simp [qij]
 | 3,_=>simp [qij]
 | 4,_=>simp [qij]
 | 5,_=>simp [qij]
 | 6,_=>simp [qij]
 | 7,_=>simp [qij]
 | 8,_=>simp [qij]
theorem qn1 (W0 c len cap:Nat) (a0:Option Addr) (o r a b n:Int) (w:World) (hc:Cur w W0 c a0 len cap):
  Calls prog 73 #[.pointer (some (aQ c 0)),insV o r a b n] w fun e w'=>∃ o r a b n:Int,e=.returned (insV o r a b n)/\Cur w' W0 c a0 len cap/\w.grownBy w' (some c):=by
 have HC0:Hid (Cur w W0 c a0 len cap):=hc;have hcl:=hc.lt;have hcg:=hc.ge;clear hc
 go_enter func73,ntmps73
 go_wp2_with fail
 have HG0:Hid (w.grownBy ((w.alloc (oQ1 o r a b n)).alloc (zQ2)) (some c)):=(World.grownBy_alloc w _ _).trans (World.grownBy_alloc _ _ _);have HX0:Hid (Five ((w.alloc (oQ1 o r a b n)).alloc (zQ2)) w.heap.size o r a b n):=Five.kept (row:=none) (heap_alloc_new w (oQ1 o r a b n)) (World.grownBy_alloc _ _ _) (by simp)
 have HN0:Hid (Five ((w.alloc (oQ1 o r a b n)).alloc (zQ2)) (w.heap.size+1) 0 0 0 0 0):=by
  have:=heap_alloc_new (w.alloc (oQ1 o r a b n)) (zQ2)
  (try dsimp only [aW] at this);rw [World.size_alloc] at this
  exact this
 have hXc:some w.heap.size≠some c:=by simp;omega
 have hNc:some (w.heap.size+1)≠some c:=by simp;omega
 refine (zY W0 c len cap a0 _ _ ((HC0.alloc _).alloc _) (by omega) (by omega)).mono ?_;rintro e w1 ⟨x,rfl,⟨xL,xH⟩,hc1,hg1⟩;have HX1:Hid (Five w1 w.heap.size o r a b n):=HX0.kept hg1 hXc;have HN1:Hid (Five w1 (w.heap.size+1) 0 0 0 0 0):=HN0.kept hg1 hNc;have HG1:Hid (w.grownBy w1 (some c)):=HG0.trans hg1;have HC1:Hid (Cur w1 W0 c a0 len cap):=hc1;clear hc1 hg1 HC0 HN0 HG0 HX0;have hx:x=0\/x=1\/x=2\/x=3\/x=4\/x=5\/x=6\/x=7:=by omega
 clear xL xH
 rcases hx with rfl | rfl | rfl | rfl | rfl | rfl | rfl | rfl
 ·go_wp2_with fail
  refine (zY W0 c len cap a0 _ _ HC1.out (by omega) (by omega)).mono ?_;rintro e w2 ⟨y,rfl,⟨yL,yH⟩,hc2,hg2⟩;have HX2:Hid (Five w2 w.heap.size o r a b n):=HX1.kept hg2 hXc;have HN2:Hid (Five w2 (w.heap.size+1) 0 0 0 0 0):=HN1.kept hg2 hNc;have HG2:Hid (w.grownBy w2 (some c)):=HG1.trans hg2;have HC2:Hid (Cur w2 W0 c a0 len cap):=hc2;clear hc2 hg2 HC1 HN1 HG1 HX1;obtain ⟨⟨e0,e1,e2,e3,e4⟩,fz⟩:=HN2.cells;have z0:=fz 0;have z1:=fz 1;have z2:=fz 2;have z3:=fz 3;have z4:=fz 4;clear fz;obtain ⟨⟨g0,g1,g2,g3,g4⟩,fy⟩:=HX2.cells;have y0:=fy 0;clear fy;go_wp2;exact bodyPost_ret (v:=insV (y - 1) r a b n) (by simp [results,results73,go_sem,e0,e1,e2,e3,e4]) rfl ⟨_,_,_,_,_,rfl,qa0 (HC2.setOther (p:=⟨w.heap.size,0,none⟩) (by simp;omega) (by simp;omega) _) (by omega) (by omega) _ _ _ _ _,qap (zV (p:=⟨w.heap.size,0,none⟩) HG2.out (.inr (nA _)) _) (by omega) _ _ _ _ _⟩
 ·go_wp2_with fail
  refine (zY W0 c len cap a0 _ _ HC1.out (by omega) (by omega)).mono ?_;rintro e w2 ⟨y,rfl,⟨yL,yH⟩,hc2,hg2⟩;have HX2:Hid (Five w2 w.heap.size o r a b n):=HX1.kept hg2 hXc;have HN2:Hid (Five w2 (w.heap.size+1) 0 0 0 0 0):=HN1.kept hg2 hNc;have HG2:Hid (w.grownBy w2 (some c)):=HG1.trans hg2;have HC2:Hid (Cur w2 W0 c a0 len cap):=hc2;clear hc2 hg2 HC1 HN1 HG1 HX1;obtain ⟨⟨e0,e1,e2,e3,e4⟩,fz⟩:=HN2.cells;have z0:=fz 0;have z1:=fz 1;have z2:=fz 2;have z3:=fz 3;have z4:=fz 4;clear fz;obtain ⟨⟨g0,g1,g2,g3,g4⟩,fy⟩:=HX2.cells;have y0:=fy 1;clear fy;go_wp2;exact bodyPost_ret (v:=insV o (y - 1) a b n) (by simp [results,results73,go_sem,e0,e1,e2,e3,e4]) rfl ⟨_,_,_,_,_,rfl,qa0 (HC2.setOther (p:=⟨w.heap.size,1,none⟩) (by simp;omega) (by simp;omega) _) (by omega) (by omega) _ _ _ _ _,qap (zV (p:=⟨w.heap.size,1,none⟩) HG2.out (.inr (nA _)) _) (by omega) _ _ _ _ _⟩
 ·go_wp2_with fail
  refine (zY W0 c len cap a0 _ _ HC1.out (by omega) (by omega)).mono ?_;rintro e w2 ⟨y,rfl,⟨yL,yH⟩,hc2,hg2⟩;have HX2:Hid (Five w2 w.heap.size o r a b n):=HX1.kept hg2 hXc;have HN2:Hid (Five w2 (w.heap.size+1) 0 0 0 0 0):=HN1.kept hg2 hNc;have HG2:Hid (w.grownBy w2 (some c)):=HG1.trans hg2;have HC2:Hid (Cur w2 W0 c a0 len cap):=hc2;clear hc2 hg2 HC1 HN1 HG1 HX1;obtain ⟨⟨e0,e1,e2,e3,e4⟩,fz⟩:=HN2.cells;have z0:=fz 0;have z1:=fz 1;have z2:=fz 2;have z3:=fz 3;have z4:=fz 4;clear fz;obtain ⟨⟨g0,g1,g2,g3,g4⟩,fy⟩:=HX2.cells;have y0:=fy 2;clear fy;go_wp2;exact bodyPost_ret (v:=insV o r (y - 1) b n) (by simp [results,results73,go_sem,e0,e1,e2,e3,e4]) rfl ⟨_,_,_,_,_,rfl,qa0 (HC2.setOther (p:=⟨w.heap.size,2,none⟩) (by simp;omega) (by simp;omega) _) (by omega) (by omega) _ _ _ _ _,qap (zV (p:=⟨w.heap.size,2,none⟩) HG2.out (.inr (nA _)) _) (by omega) _ _ _ _ _⟩
 ·go_wp2_with fail
  refine (zY W0 c len cap a0 _ _ HC1.out (by omega) (by omega)).mono ?_;rintro e w2 ⟨y,rfl,⟨yL,yH⟩,hc2,hg2⟩;have HX2:Hid (Five w2 w.heap.size o r a b n):=HX1.kept hg2 hXc;have HN2:Hid (Five w2 (w.heap.size+1) 0 0 0 0 0):=HN1.kept hg2 hNc;have HG2:Hid (w.grownBy w2 (some c)):=HG1.trans hg2;have HC2:Hid (Cur w2 W0 c a0 len cap):=hc2;clear hc2 hg2 HC1 HN1 HG1 HX1;obtain ⟨⟨e0,e1,e2,e3,e4⟩,fz⟩:=HN2.cells;have z0:=fz 0;have z1:=fz 1;have z2:=fz 2;have z3:=fz 3;have z4:=fz 4;clear fz;obtain ⟨⟨g0,g1,g2,g3,g4⟩,fy⟩:=HX2.cells;have y0:=fy 3;clear fy;go_wp2;exact bodyPost_ret (v:=insV o r a (y - 1) n) (by simp [results,results73,go_sem,e0,e1,e2,e3,e4]) rfl ⟨_,_,_,_,_,rfl,qa0 (HC2.setOther (p:=⟨w.heap.size,3,none⟩) (by simp;omega) (by simp;omega) _) (by omega) (by omega) _ _ _ _ _,qap (zV (p:=⟨w.heap.size,3,none⟩) HG2.out (.inr (nA _)) _) (by omega) _ _ _ _ _⟩
 ·have HX2:Hid (Five (w1.alloc (.cells #[iV (-1),iV 0,iV 3,iV 4,iV 9,iV 29,iV 30,iV 1000000000,iV 1000000001] 3)) w.heap.size o r a b n):=HX1.kept (World.grownBy_alloc _ _ none) (by simp)
  have HN2:Hid (Five (w1.alloc (.cells #[iV (-1),iV 0,iV 3,iV 4,iV 9,iV 29,iV 30,iV 1000000000,iV 1000000001] 3)) (w.heap.size+1) 0 0 0 0 0):=HN1.kept (World.grownBy_alloc _ _ none) (by simp);have HG2:Hid (w.grownBy (w1.alloc (.cells #[iV (-1),iV 0,iV 3,iV 4,iV 9,iV 29,iV 30,iV 1000000000,iV 1000000001] 3)) (some c)):=HG1.trans (World.grownBy_alloc _ _ _);have hc1lt:=HC1.lt;go_wp2_with fail
  refine (qfw W0 c len cap w1.heap.size 9 9 a0 qij _ (HC1.alloc _) (by omega) (by omega) (by simp) (by omega) (qu9 w1)).mono ?_;rintro e w3 ⟨y,rfl,hc3,hg3⟩;have HX3:Hid (Five w3 w.heap.size o r a b n):=HX2.kept hg3 hXc;have HN3:Hid (Five w3 (w.heap.size+1) 0 0 0 0 0):=HN2.kept hg3 hNc;have HG3:Hid (w.grownBy w3 (some c)):=HG2.trans hg3;have HC3:Hid (Cur w3 W0 c a0 len cap):=hc3;clear hc3 hg3 HN2 HG2 HX2;obtain ⟨⟨e0,e1,e2,e3,e4⟩,fz⟩:=HN3.cells;have z0:=fz 0;have z1:=fz 1;have z2:=fz 2;have z3:=fz 3;have z4:=fz 4;clear fz;obtain ⟨⟨g0,g1,g2,g3,g4⟩,fy⟩:=HX3.cells;have y0:=fy 4;clear fy;go_wp2;exact bodyPost_ret (v:=insV o r a b y) (by simp [results,results73,go_sem,e0,e1,e2,e3,e4]) rfl ⟨_,_,_,_,_,rfl,qa0 (HC3.setOther (p:=⟨w.heap.size,4,none⟩) (by simp;omega) (by simp;omega) _) (by omega) (by omega) _ _ _ _ _,qap (zV (p:=⟨w.heap.size,4,none⟩) HG3.out (.inr (nA _)) _) (by omega) _ _ _ _ _⟩
 ·obtain ⟨⟨e0,e1,e2,e3,e4⟩,fz⟩:=HN1.cells
  have z0:=fz 0;have z1:=fz 1;have z2:=fz 2;have z3:=fz 3;have z4:=fz 4;clear fz;obtain ⟨⟨g0,g1,g2,g3,g4⟩,fy⟩:=HX1.cells;clear fy;go_wp2;exact bodyPost_ret (v:=insV o r a b n) (by simp [results,results73,go_sem,e0,e1,e2,e3,e4]) rfl ⟨_,_,_,_,_,rfl,qa0 HC1.out (by omega) (by omega) _ _ _ _ _,qap HG1.out (by omega) _ _ _ _ _⟩
 ·obtain ⟨⟨e0,e1,e2,e3,e4⟩,fz⟩:=HN1.cells
  have z0:=fz 0;have z1:=fz 1;have z2:=fz 2;have z3:=fz 3;have z4:=fz 4;clear fz;obtain ⟨⟨g0,g1,g2,g3,g4⟩,fy⟩:=HX1.cells;clear fy;go_wp2;exact bodyPost_ret (v:=insV o r a b n) (by simp [results,results73,go_sem,e0,e1,e2,e3,e4]) rfl ⟨_,_,_,_,_,rfl,qa0 HC1.out (by omega) (by omega) _ _ _ _ _,qap HG1.out (by omega) _ _ _ _ _⟩
 ·obtain ⟨⟨e0,e1,e2,e3,e4⟩,fz⟩:=HN1.cells
  have z0:=fz 0;have z1:=fz 1;have z2:=fz 2;have z3:=fz 3;have z4:=fz 4;clear fz;obtain ⟨⟨g0,g1,g2,g3,g4⟩,fy⟩:=HX1.cells;clear fy;go_wp2;exact bodyPost_ret (v:=insV o r a b n) (by simp [results,results73,go_sem,e0,e1,e2,e3,e4]) rfl ⟨_,_,_,_,_,rfl,qa0 HC1.out (by omega) (by omega) _ _ _ _ _,qap HG1.out (by omega) _ _ _ _ _⟩
def isI:Value->Bool
 | .int .i64 _=>true
 | _=>false
theorem qsf {v:Value} (h:isI v=true):∃ x:Int,v=iV x:=by
 unfold isI at h
 split at h
 ·exact ⟨_,rfl⟩
 ·cases h
def Lst (w:World) (B:Nat) (v:Value) (n:Nat):Prop:=∃ xs,w.ownsRow B 45 5 v n xs/\xs.all isI=true
theorem Lst.kept {w w':World} {B n:Nat} {v:Value} {row:Option Nat} (h:Lst w B v n) (hg:w.grownBy w' row) (hr:∀ k,row=some k->k<B):Lst w' B v n:=by
 obtain ⟨xs,ho,hx⟩:=h;refine ⟨xs,ho.kept hg ?_,hx⟩;cases hv:v.ownBlock with
 | none=>exact .inl rfl
 | some k=>
  right;intro e;have h1:=(ho.lt k hv).1;have h2:=hr k e.symm;omega
theorem Lst.mono {w:World} {B B' n:Nat} {v:Value} (h:Lst w B v n) (hb:B'<=B):Lst w B' v n:=by
 obtain ⟨xs,ho,hx⟩:=h;exact ⟨xs,ho.mono hb,hx⟩
theorem Lst.form {w:World} {B n:Nat} {v:Value} (h:Lst w B v n) (hn:0<n):∃ g cap,v=.slice (some (aQ g 0)) n cap/\B<=g/\g<w.heap.size:=by
 obtain ⟨xs,ho,hx⟩:=h
 rcases ho.2 with ⟨_,h0⟩ | ⟨g,cap,cur,rfl,hb,_⟩
 ·omega
 ·exact ⟨g,cap,rfl,hb,(ho.lt g rfl).2⟩
theorem Lst.at {w:World} {B n g cap:Nat} (h:Lst w B (sG g n cap) n):∃ G,qaq w g 0 n G:=by
 obtain ⟨xs,ho,hx⟩:=h;have hall:=List.all_eq_true.1 hx
 have key:∀ j,j<n*5->∃ x:Int,w.cell? ⟨g,j,none⟩=some (iV x):=by
  intro j hj;have hl:j<xs.length:=by rw [ho.1];exact hj
  obtain ⟨x,hxx⟩:=qsf (hall xs[j] (List.getElem_mem hl));exact ⟨x,by rw [ho.cellAt j hj,List.getElem?_eq_getElem hl,hxx]⟩
 have inh:Inhabited Int:=⟨0⟩
 obtain ⟨f,hf⟩:=Go.Deep.choose_lt (α:=Int) key;refine ⟨fun i=>⟨f (i*5),f (i*5+1),f (i*5+2),f (i*5+3),f (i*5+4)⟩,fun i hi=>?_⟩;simp only [nL];exact ⟨hf _ (by omega),hf _ (by omega),hf _ (by omega),hf _ (by omega),hf _ (by omega)⟩
theorem Lst.lit {w:World} {B n:Nat} (cs:Array Value) (hB:B<=w.heap.size) (hn:n<=1000) (hs:cs.size=n*5) (hc:cs.toList.all isI=true):Lst (w.alloc (.cells cs 45)) B (sG w.heap.size n n) n:=
 ⟨cs.toList,World.ownsRow_lit w cs n hB (by unfold maxLen;omega) hs,hc⟩
theorem qw0 {xs:List Value} {u:Value} (h:xs.all isI=true) (hu:isI u=true) (j:Nat):(xs.set j u).all isI=true:=by
 rw [List.all_eq_true] at h ⊢;intro v hv
 rcases List.mem_or_eq_of_mem_set hv with h1 | h1
 ·exact h v h1
 ·rw [h1];exact hu
theorem Lst.set {w:World} {B n g cap:Nat} (h:Lst w B (sG g n cap) n) (j:Nat) (x:Int):Lst (w.setCell (aQ g j) (iV x)) B (sG g n cap) n:=by
 obtain ⟨xs,ho,hx⟩:=h;exact ⟨_,(ho.stored j _).1,qw0 hx rfl j⟩
theorem qzm:(prog.info? 45).map (fun i=>(i.zero,i.size,i.bytes))=some (some (insV 0 0 0 0 0),5,40):=by kernel_rfl
theorem qjo (w:World) (a b c d e:Value) (t:TypeId):∀ j u,[a,b,c,d,e][j]? = some u->(w.alloc (.cells #[a,b,c,d,e] t)).cell? ((⟨w.heap.size,0,none⟩:Addr).add j)=some u:=by
 intro j u hj
 match j,hj with
 | 0,hj=>simp at hj;subst hj;simp [Addr.add]
 | 1,hj=>simp at hj;subst hj;simp [Addr.add]
 | 2,hj=>simp at hj;subst hj;simp [Addr.add]
 | 3,hj=>simp at hj;subst hj;simp [Addr.add]
 | 4,hj=>simp at hj;subst hj;simp [Addr.add]
 | j+5,hj=>simp at hj
theorem qep {ops:Array Oper} {rest:List Oper} {op:Oper} {act:Act} {Q:Exit->Act->World->Prop} (w:World) (hgd:op.guard=none) (s x:Operand)
  (ho:op.op=.call { callee:=.builtin .append,args:=#[s,x],argTypes:=#[42,42] })
  (B:Nat) (v:Value) (n:Nat) (hs:act.eval s=v) (hl:Lst w B v n) (o r a b k:Int) (hx:act.eval x=.slice (some (aQ w.heap.size 0)) 1 1) (hn:n<=1000) (hB:B<=w.heap.size)
  (h:∀ v' w',Lst w' B v' (n+1)->(w.alloc (oQ1 o r a b k)).grownBy w' v.ownBlock->wpList prog ops Q rest (act.put op.dst v') w'):
  wpList prog ops Q (op :: rest) act (w.alloc (oQ1 o r a b k)):=by
 obtain ⟨i0,hi,hz0,hz1,hz2⟩:=info_parts qzm;obtain ⟨xs,how,hxs⟩:=hl
 refine wpList_append_own _ hgd s x 42 ho B 45 i0 (insV 0 0 0 0 0) 5 40 Tryz.underlying42 hi hz0 hz1 hz2 rfl (by decide) v n xs hs (how.alloc _) ⟨w.heap.size,0,none⟩ 1 1
  [iV o,iV r,iV a,iV b,iV k] hx rfl (qjo _ _ _ _ _ _ _) (fun u hu=>?_) (by unfold maxLen;omega) (by omega) (by simp;omega) ?_
 ·simp at hu
  rcases hu with rfl | rfl | rfl | rfl | rfl <;> rfl
 ·intro v' w' h1 h2 _
  refine h v' w' ⟨_,h1,?_⟩ h2;rw [List.all_append,hxs];rfl
def qu7 (j:Nat):Int:=[(11:Int),9].getD j 0
theorem qu8 (w:World):qh0 (w.alloc (.cells #[iV 11,iV 9] 3)) w.heap.size 2 qu7:=by
 intro j hj
 match j,hj with
 | 0,_=>simp [qu7]
 | 1,_=>simp [qu7]
theorem Lst.own {w:World} {B n:Nat} {v:Value} (h:Lst w B v n):∀ j,v.ownBlock=some j->B<=j:=by
 obtain ⟨xs,ho,hx⟩:=h;exact fun j hj=>(ho.lt j hj).1
theorem Lst.cur {w w':World} {B W0 c len cap n:Nat} {a0:Option Addr} {v:Value} {o:Obj} (h:Lst w B v n) (hc:Cur w W0 c a0 len cap) (hg:(w.alloc o).grownBy w' v.ownBlock) (hB:c<B) (hW:W0<=c):Cur w' W0 c a0 len cap:=
 (hc.alloc o).kept hg (fun e=>by have:=h.own c e.symm;omega) (fun k hk=>by have:=h.own k hk;omega)
theorem qe7 (W0 c len cap:Nat) (a0:Option Addr) (P me:Int) (w:World) (hc:Cur w W0 c a0 len cap) (m1:0<=me) (m2:me<P) (P4:P<=4):
  Calls prog 72 #[.pointer (some (aQ c 0)),iV P,iV me] w fun e w'=>∃ (v:Value) (n:Nat),e=.returned v/\(1<=n/\n<=11)/\Lst w' w.heap.size v n/\Cur w' W0 c a0 len cap/\w.grownBy w' (some c):=by
 have HC0:Hid (Cur w W0 c a0 len cap):=hc;have hcl:=hc.lt;have hcg:=hc.ge;clear hc;have cNone:∀ k:Nat,(none:Option Nat)=some k->W0<=k:=fun k h=>by cases h
 have n3:(P == 0)=false:=by simp;omega
 have n5:(1:Int)<=P:=by omega
 go_enter func72,ntmps72
 go_wp2_with fail
 refine (zY W0 c len cap a0 _ _ HC0.out (by omega) (by omega)).mono ?_;rintro e w1 ⟨x,rfl,⟨xL,xH⟩,hc1,hg1⟩;have HC1:Hid (Cur w1 W0 c a0 len cap):=hc1;have HG1:Hid (w.grownBy w1 (some c)):=hg1;have hs1:=hg1.size;clear hc1 hg1 HC0 cNone;have hx:x=0\/x=1\/x=2\/x=3:=by omega
 clear xL xH
 rcases hx with rfl | rfl | rfl | rfl
 ·go_wp2
  go_ret;exact ⟨_,6,rfl,by omega,Lst.lit _ hs1 (by omega) rfl rfl,HC1.alloc _,HG1.trans (World.grownBy_alloc _ _ _)⟩
 ·go_wp2
  go_ret;exact ⟨_,6,rfl,by omega,Lst.lit _ hs1 (by omega) rfl rfl,HC1.alloc _,HG1.trans (World.grownBy_alloc _ _ _)⟩
 ·go_wp2_with fail
  refine (zY W0 c len cap a0 _ _ HC1.out (by omega) (by omega)).mono ?_;rintro e w2 ⟨y,rfl,⟨yL,yH⟩,hc2,hg2⟩;have HC2:Hid (Cur w2 W0 c a0 len cap):=hc2;have HG2:Hid (w.grownBy w2 (some c)):=HG1.trans hg2;have hs2:=HG2.size;clear hc2 hg2 HC1 HG1;go_wp2;go_ret;exact ⟨_,9,rfl,by omega,Lst.lit _ hs2 (by omega) rfl rfl,HC2.alloc _,HG2.trans (World.grownBy_alloc _ _ _)⟩
 ·go_wp2_with fail
  refine (zY W0 c len cap a0 _ _ HC1.out (by omega) (by omega)).mono ?_;rintro e w2 ⟨y,rfl,⟨yL,yH⟩,hc2,hg2⟩;have HC2:Hid (Cur w2 W0 c a0 len cap):=hc2;have HG2:Hid (w.grownBy w2 (some c)):=HG1.trans hg2;have hs2:=HG2.size;obtain ⟨m,rfl⟩:=Int.eq_ofNat_of_zero_le yL;have hm:m<8:=by omega
  clear hc2 hg2 HC1 HG1 yL yH;go_wp2_with fail
  go_loopw [9,10] (fun out i wr=>∃ k:Nat,k<=3+m/\i=.int .i64 k/\Hid (Lst wr w.heap.size out k/\Cur wr W0 c a0 len cap/\w.grownBy wr (some c))) (fun _ i _=>3+m - (intOf i).toNat)
  case atStart=>exact ⟨0,nD _,rfl,Lst.lit #[] hs2 (by omega) rfl rfl,HC2.alloc _,HG2.trans (World.grownBy_alloc _ _ _)⟩
  case round=>
   obtain ⟨k,hk,rfl,HR⟩:=hrel;by_cases hlt:k<3+m
   ·have hlt':(k:Int)<3+(m:Int):=by omega
    go_wp2_with fail
    refine (qj3 W0 c len cap a0 _ _ _ HR.2.1 (by omega) (by omega) (by omega) (by omega)).mono ?_;rintro e w3 ⟨o,r,a,b,n,rfl,hc3,hg3⟩;have HL3:Hid (Lst w3 w.heap.size u9 k):=HR.1.kept hg3 (fun j hj=>by cases hj;exact hcl);have HC3:Hid (Cur w3 W0 c a0 len cap):=hc3;have HG3:Hid (w.grownBy w3 (some c)):=HR.2.2.trans hg3;have hs3:=HG3.size;clear hc3 hg3 HR;go_wp2_with (at_builtin;refine qep w3 rfl _ _ rfl w.heap.size u9 k rfl HL3.out o r a b n rfl (by omega) hs3 ?_;intro v' w4 hl4 hg4;have HR4:Hid (Lst w4 w.heap.size v' (k+1)/\Cur w4 W0 c a0 len cap/\w.grownBy w4 (some c)):=⟨hl4,Lst.cur HL3.out HC3.out hg4 hcl hcg,(HG3.trans (World.grownBy_alloc _ _ _)).andThen hg4 (fun j hj=>.inl (HL3.own j hj))⟩;clear hl4 hg4 HL3 HC3 HG3)
    go_roundw
    case rel=>exact ⟨k+1,by omega,by go_num,HR4⟩
    case measure=>simp [intOf];omega
   ·have hlt':¬ (k:Int)<3+(m:Int):=by omega
    have hs3:=HR.2.2.size;have hcw:=HR.2.1.lt;go_wp2_with fail
    refine (qfw W0 c len cap wr.heap.size 2 2 a0 qu7 _ (HR.2.1.alloc _) (by omega) (by omega) (by simp) (by omega) (qu8 wr)).mono ?_;rintro e w3 ⟨y,rfl,hc3,hg3⟩;have HL3:Hid (Lst w3 w.heap.size u9 k):=(HR.1.kept (World.grownBy_alloc _ _ none) (fun j hj=>by cases hj)).kept hg3 (fun j hj=>by cases hj;exact hcl);have HC3:Hid (Cur w3 W0 c a0 len cap):=hc3;have HG3:Hid (w.grownBy w3 (some c)):=(HR.2.2.trans (World.grownBy_alloc _ _ _)).trans hg3;have hs4:=HG3.size;clear hc3 hg3 HR;go_wp2_with (at_builtin;refine qep w3 rfl _ _ rfl w.heap.size u9 k rfl HL3.out y 0 0 0 0 rfl (by omega) hs4 ?_;intro v' w4 hl4 hg4;have HR4:Hid (Lst w4 w.heap.size v' (k+1)/\Cur w4 W0 c a0 len cap/\w.grownBy w4 (some c)):=⟨hl4,Lst.cur HL3.out HC3.out hg4 hcl hcg,(HG3.trans (World.grownBy_alloc _ _ _)).andThen hg4 (fun j hj=>.inl (HL3.own j hj))⟩;clear hl4 hg4 HL3 HC3 HG3)
    go_ret;exact ⟨_,k+1,rfl,by omega,HR4.out⟩
theorem qiw (W0 c len cap:Nat) (a0:Option Addr) (me:Int) (w:World) (hc:Cur w W0 c a0 len cap) (m1:0<=me) (m2:me<3):
  Calls prog 72 #[.pointer (some (aQ c 0)),iV 3,iV me] w fun e w'=>∃ (v:Value) (n:Nat),e=.returned v/\(1<=n/\n<=11)/\Lst w' w.heap.size v n/\Cur w' W0 c a0 len cap/\w.grownBy w' (some c):=
 qe7 W0 c len cap a0 3 me w hc m1 m2 (by omega)
def lenV:Value->Nat
 | .slice _ n _=>n
 | _=>0
theorem Lst.frozen {w:World} {B n g cap:Nat} (h:Lst w B (sG g n cap) n) (j:Nat):w.frozen? (aQ g j)=false:=by
 obtain ⟨xs,ho,hx⟩:=h;exact ho.frozenAt j
def Way (w wr:World) (W0 c len cap:Nat) (a0:Option Addr) (g n gc:Nat):Prop:=
 Lst wr w.heap.size (sG g n gc) n/\Cur wr W0 c a0 len cap/\w.grownBy wr (some c)
theorem Way.step {w wr w':World} {W0 c len cap g n gc:Nat} {a0:Option Addr} (h:Way w wr W0 c len cap a0 g n gc) (hcl:c<w.heap.size) (hc:Cur w' W0 c a0 len cap) (hg:wr.grownBy w' (some c)):Way w w' W0 c len cap a0 g n gc:=
 ⟨h.1.kept hg (fun j hj=>by cases hj;exact hcl),hc,h.2.2.trans hg⟩
theorem Way.set {w wr:World} {W0 c len cap g n gc:Nat} {a0:Option Addr} (h:Way w wr W0 c len cap a0 g n gc) (hcl:c<w.heap.size) (hcg:W0<=c) (j:Nat) (x:Int):Way w (wr.setCell (aQ g j) (iV x)) W0 c len cap a0 g n gc:=by
 have hg:=h.1.own g rfl;exact ⟨h.1.set j x,h.2.1.setOther (p:=(aQ g j)) (by simp;omega) (by simp;omega) _,zV (p:=(aQ g j)) h.2.2 (.inr hg) _⟩
theorem qj2 (W0 c len cap:Nat) (a0:Option Addr) (w:World) (hc:Cur w W0 c a0 len cap):
  Calls prog 38 #[.pointer (some (aQ c 0))] w fun e w'=>∃ g n gc:Nat,e=.returned (sG g n gc)/\n<=31/\Way w w' W0 c len cap a0 g n gc:=by
 have HC0:Hid (Cur w W0 c a0 len cap):=hc;have hcl:=hc.lt;have hcg:=hc.ge;clear hc
 go_enter func38,ntmps38
 go_wp2_with fail
 refine (zY W0 c len cap a0 _ _ HC0.out (by omega) (by omega)).mono ?_;rintro e w1 ⟨me,rfl,⟨m0,m1⟩,hc1,hg1⟩;have HC1:Hid (Cur w1 W0 c a0 len cap):=hc1;have HG1:Hid (w.grownBy w1 (some c)):=hg1;have hs1:=hg1.size;clear hc1 hg1 HC0;go_wp2_with fail
 refine (qiw W0 c len cap a0 _ _ HC1.out m0 m1).mono ?_;rintro e w2 ⟨v,n,rfl,⟨n0,n1⟩,hl2,hc2,hg2⟩;have hvf:∃ g gc,v=.slice (some (aQ g 0)) n gc/\w1.heap.size<=g/\g<w2.heap.size:=hl2.form (by omega);obtain ⟨g,gc,hv,hgB,hgl⟩:=hvf;rw [hv];rw [hv] at hl2;have HW2:Hid (Way w w2 W0 c len cap a0 g n gc):=⟨hl2.mono hs1,hc2,HG1.trans hg2⟩
 have n0':(1:Int)<=(n:Int):=by omega
 have n1':(n:Int)<=11:=by omega
 clear hl2 hc2 hg2 HC1 HG1 hv hs1;go_wp2_with fail
 refine (qb3 W0 c len cap a0 _ _ HW2.2.1 (by omega) (by omega)).mono ?_;rintro e w3 ⟨t,rfl,hc3,hg3⟩;have HW3:Hid (Way w w3 W0 c len cap a0 g n gc):=HW2.step hcl hc3 hg3;clear hc3 hg3 HW2;cases t
 case true=>
  go_wp2_with fail
  refine (zY W0 c len cap a0 _ _ HW3.2.1 n0' (by omega)).mono ?_;rintro e w4 ⟨x,rfl,⟨x0,x1⟩,hc4,hg4⟩;obtain ⟨k,rfl⟩:=Int.eq_ofNat_of_zero_le x0;have hk:k<n:=by omega
  have HW4:Hid (Way w w4 W0 c len cap a0 g n gc):=HW3.step hcl hc4 hg4;obtain ⟨G,hG⟩:=HW4.1.at;obtain ⟨c0,c1,c2,c3,c4⟩:=hG k hk;rw [nL] at c0 c1 c2 c3 c4;clear hc4 hg4 HW3 hG;go_wp2_with fail
  refine (qn1 W0 c len cap a0 _ _ _ _ _ _ HW4.2.1).mono ?_;rintro e w5 ⟨o,r,a,b,nn,rfl,hc5,hg5⟩;have HW5:Hid (Way w w5 W0 c len cap a0 g n gc):=HW4.step hcl hc5 hg5;obtain ⟨G5,hG5⟩:=HW5.1.at;obtain ⟨d0,d1,d2,d3,d4⟩:=hG5 k hk;rw [nL] at d0 d1 d2 d3 d4;have f0:=HW5.1.frozen (k*5);have f1:=HW5.1.frozen (k*5+1);have f2:=HW5.1.frozen (k*5+2);have f3:=HW5.1.frozen (k*5+3);have f4:=HW5.1.frozen (k*5+4);clear hc5 hg5 HW4 hG5 c0 c1 c2 c3 c4
  have HW6:Hid (Way w (((((w5.setCell ⟨g,k*5,none⟩ (iV o)).setCell ⟨g,k*5+1,none⟩ (iV r)).setCell ⟨g,k*5+2,none⟩ (iV a)).setCell ⟨g,k*5+3,none⟩ (iV b)).setCell ⟨g,k*5+4,none⟩ (iV nn)) W0 c len cap a0 g n gc):=
   ((((HW5.set hcl hcg _ _).set hcl hcg _ _).set hcl hcg _ _).set hcl hcg _ _).set hcl hcg _ _
  go_wp2_with fail
  refine (qb3 W0 c len cap a0 _ _ HW6.2.1 (by omega) (by omega)).mono ?_;rintro e w7 ⟨t,rfl,hc7,hg7⟩;have HW7:Hid (Way w w7 W0 c len cap a0 g n gc):=HW6.step hcl hc7 hg7;clear hc7 hg7 HW6 HW5 d0 d1 d2 d3 d4 f0 f1 f2 f3 f4;cases t
  case false=>
   go_wp2;go_ret;exact ⟨g,n,gc,rfl,by omega,HW7.out⟩
  case true=>
   go_wp2_with fail
   go_loopw [3] (fun l wr=>∃ m g' gc':Nat,(1<=m/\m<=31)/\l=.slice (some (aQ g' 0)) m gc'/\Hid (Way w wr W0 c len cap a0 g' m gc')) (fun l _=>32 - lenV l)
   case atStart=>exact ⟨n,g,gc,by omega,rfl,HW7⟩
   case round=>
    obtain ⟨m,g',gc',⟨m0,m1⟩,rfl,HR⟩:=hrel;go_wp2_with fail
    refine (zY W0 c len cap a0 _ _ HR.2.1 (by omega) (by omega)).mono ?_;rintro e w8 ⟨y,rfl,⟨y0,y1⟩,hc8,hg8⟩;have HW8:Hid (Way w w8 W0 c len cap a0 g' m gc'):=HR.step hcl hc8 hg8;have hs8:=HW8.2.2.size;clear hc8 hg8 HR;by_cases hlt:(m:Int)<30+y
    ·go_wp2_with (at_builtin;refine qep w8 rfl _ _ rfl w.heap.size (sG g' m gc') m rfl HW8.1 11 0 0 0 0 rfl (by omega) hs8 ?_;intro v' w9 hl9 hg9;have HC9:Hid (Cur w9 W0 c a0 len cap/\w.grownBy w9 (some c)):=⟨Lst.cur HW8.1 HW8.2.1 hg9 hcl hcg,(HW8.2.2.trans (World.grownBy_alloc _ _ _)).andThen hg9 (fun j hj=>.inl (HW8.1.own j hj))⟩;obtain ⟨g9,c9,hv9,_,_⟩:=hl9.form (by omega);rw [hv9];rw [hv9] at hl9;have HL9:Hid (Lst w9 w.heap.size (sG g9 (m+1) c9) (m+1)):=hl9;clear hl9 hg9 HW8 hv9 v')
     go_roundw
     case rel=>exact ⟨m+1,g9,c9,by omega,rfl,HL9.out,HC9.out⟩
     case measure=>simp [lenV];omega
    ·go_wp2
     go_ret;exact ⟨g',m,gc',rfl,by omega,HW8.out⟩
 case false=>
  go_wp2_with fail
  refine (qb3 W0 c len cap a0 _ _ HW3.2.1 (by omega) (by omega)).mono ?_;rintro e w7 ⟨t,rfl,hc7,hg7⟩;have HW7:Hid (Way w w7 W0 c len cap a0 g n gc):=HW3.step hcl hc7 hg7;clear hc7 hg7 HW3;cases t
  case false=>
   go_wp2;go_ret;exact ⟨g,n,gc,rfl,by omega,HW7.out⟩
  case true=>
   go_wp2_with fail
   go_loopw [3] (fun l wr=>∃ m g' gc':Nat,(1<=m/\m<=31)/\l=.slice (some (aQ g' 0)) m gc'/\Hid (Way w wr W0 c len cap a0 g' m gc')) (fun l _=>32 - lenV l)
   case atStart=>exact ⟨n,g,gc,by omega,rfl,HW7⟩
   case round=>
    obtain ⟨m,g',gc',⟨m0,m1⟩,rfl,HR⟩:=hrel;go_wp2_with fail
    refine (zY W0 c len cap a0 _ _ HR.2.1 (by omega) (by omega)).mono ?_;rintro e w8 ⟨y,rfl,⟨y0,y1⟩,hc8,hg8⟩;have HW8:Hid (Way w w8 W0 c len cap a0 g' m gc'):=HR.step hcl hc8 hg8;have hs8:=HW8.2.2.size;clear hc8 hg8 HR;by_cases hlt:(m:Int)<30+y
    ·go_wp2_with (at_builtin;refine qep w8 rfl _ _ rfl w.heap.size (sG g' m gc') m rfl HW8.1 11 0 0 0 0 rfl (by omega) hs8 ?_;intro v' w9 hl9 hg9;have HC9:Hid (Cur w9 W0 c a0 len cap/\w.grownBy w9 (some c)):=⟨Lst.cur HW8.1 HW8.2.1 hg9 hcl hcg,(HW8.2.2.trans (World.grownBy_alloc _ _ _)).andThen hg9 (fun j hj=>.inl (HW8.1.own j hj))⟩;obtain ⟨g9,c9,hv9,_,_⟩:=hl9.form (by omega);rw [hv9];rw [hv9] at hl9;have HL9:Hid (Lst w9 w.heap.size (sG g9 (m+1) c9) (m+1)):=hl9;clear hl9 hg9 HW8 hv9 v')
     go_roundw
     case rel=>exact ⟨m+1,g9,c9,by omega,rfl,HL9.out,HC9.out⟩
     case measure=>simp [lenV];omega
    ·go_wp2
     go_ret;exact ⟨g',m,gc',rfl,by omega,HW8.out⟩
