import Derived.Test.YtgkocghddlolkaaGreatDoorYl26
import Derived.Test.YtgkocghddlolkaaGreatDoorYl27
namespace Go.Proofs.YtgkocghddlolkaaGreatDoor
open Go.Proofs.Tryz
set_option maxRecDepth 100000
set_option maxHeartbeats 8000000
open Go.RowKit Go.Deep
theorem DW.alloc {w wr:World} {W0 c len cap N M B T:Nat} {a0:Option Addr} {x:SysIn} (h:DW w wr W0 c a0 len cap N M B T x) (o:Obj):DW w (wr.alloc o) W0 c a0 len cap N M B T x:=h.draw (h.cu.alloc o) (World.grownBy_alloc _ _ _)
def DrwA (w:World) (e:Ending) (w':World):Prop:=∃ (x:SysIn) (a b:Int) (B T:Nat),e=.returned (.tuple #[x.v,.int .i64 a,.int .i64 b])/\x.y.Sm/\SysX w' B T x/\w.heap.size<=B/\T<=w'.heap.size/\Bw w w'/\(-1<=a/\a<=16)/\(-1<=b/\b<=1000)
theorem qle (W0 len cap:Nat) (a0:Option Addr) (w:World) (hB:qb5 w W0 a0 len) (hW:W0<=w.heap.size) (ln:len<=1048576):
  Calls prog 12 #[.slice a0 len cap] w (DrwA w):=by
 have C0:Hid (qb5 (w.alloc (zQ3)) W0 a0 len/\W0<=(w.alloc (zQ3)).heap.size/\Bw w (w.alloc (zQ3))/\Bx (w.alloc (zQ3)) w.heap.size nS nS nS nS/\(w.alloc (zQ3)).heap.size=w.heap.size+1):=⟨hB.kept (fun k hk=>(zQ w (zQ3)).block k (by omega)),by simp;omega,zQ _ _,Bx.new w _ _ _ _ _,by simp⟩
 clear hB
 go_enter func12,ntmps12
 go_wp2_with fail
 generalize w.alloc (zQ3)=W2 at *;refine (qrg W0 len cap a0 W2 C0.1 C0.2.1 ln).mono ?_;rintro e w1 ⟨rfl,hc1,hg1⟩;have C1:Hid (Cur w1 W0 W2.heap.size a0 len cap/\Bw w w1/\Bx w1 w.heap.size nS nS nS nS/\W2.heap.size=w.heap.size+1/\W2.heap.size<w1.heap.size):=⟨hc1,C0.2.2.1.trans ((qdg hg1).mono C0.2.2.1.size),C0.2.2.2.1.below (qdg hg1),C0.2.2.2.2,hc1.lt⟩
 clear hc1 hg1 C0;generalize W2.heap.size=c at *;go_wp2_with fail
 refine (qpu W0 c len cap a0 w1 C1.1).mono ?_;rintro e w2 ⟨x,B,T,rfl,hm,hX,hc2,hg2,hcB,hT⟩
 have DA:Hid (DW w (w2.alloc (x.oX)) W0 c a0 len cap w.heap.size w2.heap.size B T x):=by
  have hs:=hg2.size;have h1:=C1.2.2.2.1;have h2:=C1.2.2.2.2;refine ⟨hc2.alloc _,(Below.grown C1.2.1 hg2 C1.2.1.size (fun k hk=>by cases hk;omega)).trans ((zQ _ _).mono (by have:=C1.2.1.size;omega)),hX.keep (by simp) fun b _ _ hl=>(zQ w2 _).block b hl,(C1.2.2.1.grown hg2 (by simp;omega)).below (zQ _ _),Bx.new _ _ _ _ _ _,Nat.le_refl _,by omega,hcB,by omega,hT⟩
 have HM:Hid x.y.Sm:=hm
 have hn16:(x.hn:Int)<=16:=by
  have h:x.hn<=16:=hm.n.2.2.2;omega
 have HL:Hid (∀ i,i<x.hn->x.hL i<=1000):=fun i hi=>hm.h i hi;clear hX hc2 hg2 hcB hT C1 hm;obtain ⟨⟨z0,z1,z2,z3⟩,-⟩:=DA.b6;go_wp2_with fail
 generalize w2.alloc (x.oX)=wA at *;generalize w2.heap.size=M at *;clear z0 z1 z2 z3;refine (qhx (x.hn:Int) 1 wA).mono ?_;rintro e w' ⟨m,rfl,⟨m1,m2,m3⟩,rfl⟩;go_wp2_with fail
 refine (zY W0 c len cap a0 m _ DA.cu (by omega) (by omega)).mono ?_;rintro e w3 ⟨p,rfl,⟨p0,p1⟩,hc3,hg3⟩;have D3:Hid (DW w w3 W0 c a0 len cap w.heap.size M B T x):=DA.draw hc3 hg3;clear hc3 hg3 DA;obtain ⟨⟨z0,z1,z2,z3⟩,-⟩:=D3.b6;by_cases hp:p<(x.hn:Int)
 ·obtain ⟨P,rfl⟩:∃ P:Nat,p=P:=⟨p.toNat,by omega⟩
  have hP:P<x.hn:=by omega
  obtain ⟨b,off,ea,cb⟩:=D3.sx.self.h.at hP;have cb:w3.cell? ⟨b,off+P,none⟩=some (.slice (x.hA P) (x.hL P) (x.hC P)):=cb;have hk':(x.hL P:Int)<=1000:=by have:=HL.out P hP;omega
  rw [ea] at z3;clear ea;go_wp2_with fail
  clear z0 z1 z2 z3 cb;refine (qld W0 c len cap a0 ((x.hL P:Int)+1) w3 D3.cu (by omega) (by omega)).mono ?_;rintro e w4 ⟨k,rfl,⟨k0,k1⟩,hc4,hg4⟩;have D4:Hid (DW w w4 W0 c a0 len cap w.heap.size M B T x):=D3.draw hc4 hg4;clear hc4 hg4 D3 hP HL;generalize x.hL P=lP at *;have hPP:-1<=(P:Int)/\(P:Int)<=16:=by omega
  clear hp p0 p1 m1 m2 m3;go_wp2_with fail
  refine (zY W0 c len cap a0 15 w4 D4.cu (by omega) (by omega)).mono ?_;rintro e w5 ⟨r,rfl,⟨r0,r1⟩,hc5,hg5⟩;have D5:Hid (DW w w5 W0 c a0 len cap w.heap.size M B T x):=D4.draw hc5 hg5;clear hc5 hg5 D4;by_cases e0:r=0
  ·subst e0
   go_wp2_with fail
   have cN5:c<w5.heap.size:=D5.cu.lt;refine (qcp W0 c len cap w5.heap.size 2 2 a0 pickP _ (D5.cu.alloc _) (by omega) (by omega) (by simp) (by omega) (qom w5)).mono ?_;rintro e w6 ⟨i,hi,rfl,hc6,hg6⟩;have D6:Hid (DW w w6 W0 c a0 len cap w.heap.size M B T x):=(D5.alloc _).draw hc6 hg6;clear hc6 hg6 D5 cN5;have hv:=qon i;generalize pickP i=v at *;obtain ⟨⟨x0,x1,x2,x3⟩,xf⟩:=D6.b2;obtain ⟨⟨z0,z1,z2,z3⟩,-⟩:=D6.b6;go_wp2;refine bodyPost_ret (v:=.tuple #[x.v,.int .i64 v,.int .i64 k]) (by simp [results,results12,go_sem,x0,x1,x2,x3]) rfl ⟨x,v,k,B,T,rfl,HM.out,?_,?_,?_,?_,by omega,by omega⟩
   ·exact D6.set4 _ _ _ _
   ·have:=D6.sz
    omega
   ·have:=D6.sz
    have:=D6.b6.lt;simp;omega
   ·exact (((D6.be.setCell (Nat.le_refl _) _).setCell (Nat.le_refl _) _).setCell (Nat.le_refl _) _).setCell (Nat.le_refl _) _
  ·by_cases e1:r=1
   ·subst e1
    go_wp2_with fail
    have cN5:c<w5.heap.size:=D5.cu.lt;refine (qcp W0 c len cap w5.heap.size 2 2 a0 pickK _ (D5.cu.alloc _) (by omega) (by omega) (by simp) (by omega) (qok w5)).mono ?_;rintro e w6 ⟨i,hi,rfl,hc6,hg6⟩;have D6:Hid (DW w w6 W0 c a0 len cap w.heap.size M B T x):=(D5.alloc _).draw hc6 hg6;clear hc6 hg6 D5 cN5;have hv:=qol i;generalize pickK i=v at *;obtain ⟨⟨x0,x1,x2,x3⟩,xf⟩:=D6.b2;obtain ⟨⟨z0,z1,z2,z3⟩,-⟩:=D6.b6;go_wp2;refine bodyPost_ret (v:=.tuple #[x.v,.int .i64 (P:Int),.int .i64 v]) (by simp [results,results12,go_sem,x0,x1,x2,x3]) rfl ⟨x,(P:Int),v,B,T,rfl,HM.out,?_,?_,?_,?_,by omega,by omega⟩
    ·exact D6.set4 _ _ _ _
    ·have:=D6.sz
     omega
    ·have:=D6.sz
     have:=D6.b6.lt;simp;omega
    ·exact (((D6.be.setCell (Nat.le_refl _) _).setCell (Nat.le_refl _) _).setCell (Nat.le_refl _) _).setCell (Nat.le_refl _) _
   ·have e0':(r == 0)=false:=by simpa using e0
    have e1':(r == 1)=false:=by simpa using e1
    obtain ⟨⟨x0,x1,x2,x3⟩,xf⟩:=D5.b2;obtain ⟨⟨z0,z1,z2,z3⟩,-⟩:=D5.b6;go_wp2;refine bodyPost_ret (v:=.tuple #[x.v,.int .i64 (P:Int),.int .i64 k]) (by simp [results,results12,go_sem,x0,x1,x2,x3]) rfl ⟨x,(P:Int),k,B,T,rfl,HM.out,?_,?_,?_,?_,by omega,by omega⟩
    ·exact D5.set4 _ _ _ _
    ·have:=D5.sz
     omega
    ·have:=D5.sz
     have:=D5.b6.lt;simp;omega
    ·exact (((D5.be.setCell (Nat.le_refl _) _).setCell (Nat.le_refl _) _).setCell (Nat.le_refl _) _).setCell (Nat.le_refl _) _
 ·clear z0 z1 z2 z3
  obtain ⟨⟨z0,z1,z2,z3⟩,-⟩:=D3.b6;have hpn:¬ p<(x.hn:Int):=hp;go_wp2_with fail
  clear z0 z1 z2 z3;refine (zY W0 c len cap a0 15 w3 D3.cu (by omega) (by omega)).mono ?_;rintro e w5 ⟨r,rfl,⟨r0,r1⟩,hc5,hg5⟩;have D5:Hid (DW w w5 W0 c a0 len cap w.heap.size M B T x):=D3.draw hc5 hg5;clear hc5 hg5 D3;by_cases e0:r=0
  ·subst e0
   go_wp2_with fail
   have cN5:c<w5.heap.size:=D5.cu.lt;refine (qcp W0 c len cap w5.heap.size 2 2 a0 pickP _ (D5.cu.alloc _) (by omega) (by omega) (by simp) (by omega) (qom w5)).mono ?_;rintro e w6 ⟨i,hi,rfl,hc6,hg6⟩;have D6:Hid (DW w w6 W0 c a0 len cap w.heap.size M B T x):=(D5.alloc _).draw hc6 hg6;clear hc6 hg6 D5 cN5;have hv:=qon i;generalize pickP i=v at *;obtain ⟨⟨x0,x1,x2,x3⟩,xf⟩:=D6.b2;obtain ⟨⟨z0,z1,z2,z3⟩,-⟩:=D6.b6;go_wp2;refine bodyPost_ret (v:=.tuple #[x.v,.int .i64 v,.int .i64 0]) (by simp [results,results12,go_sem,x0,x1,x2,x3]) rfl ⟨x,v,0,B,T,rfl,HM.out,?_,?_,?_,?_,by omega,by omega⟩
   ·exact D6.set4 _ _ _ _
   ·have:=D6.sz
    omega
   ·have:=D6.sz
    have:=D6.b6.lt;simp;omega
   ·exact (((D6.be.setCell (Nat.le_refl _) _).setCell (Nat.le_refl _) _).setCell (Nat.le_refl _) _).setCell (Nat.le_refl _) _
  ·by_cases e1:r=1
   ·subst e1
    go_wp2_with fail
    have cN5:c<w5.heap.size:=D5.cu.lt;refine (qcp W0 c len cap w5.heap.size 2 2 a0 pickK _ (D5.cu.alloc _) (by omega) (by omega) (by simp) (by omega) (qok w5)).mono ?_;rintro e w6 ⟨i,hi,rfl,hc6,hg6⟩;have D6:Hid (DW w w6 W0 c a0 len cap w.heap.size M B T x):=(D5.alloc _).draw hc6 hg6;clear hc6 hg6 D5 cN5;have hv:=qol i;generalize pickK i=v at *;obtain ⟨⟨x0,x1,x2,x3⟩,xf⟩:=D6.b2;obtain ⟨⟨z0,z1,z2,z3⟩,-⟩:=D6.b6;go_wp2;refine bodyPost_ret (v:=.tuple #[x.v,.int .i64 p,.int .i64 v]) (by simp [results,results12,go_sem,x0,x1,x2,x3]) rfl ⟨x,p,v,B,T,rfl,HM.out,?_,?_,?_,?_,by omega,by omega⟩
    ·exact D6.set4 _ _ _ _
    ·have:=D6.sz
     omega
    ·have:=D6.sz
     have:=D6.b6.lt;simp;omega
    ·exact (((D6.be.setCell (Nat.le_refl _) _).setCell (Nat.le_refl _) _).setCell (Nat.le_refl _) _).setCell (Nat.le_refl _) _
   ·have e0':(r == 0)=false:=by simpa using e0
    have e1':(r == 1)=false:=by simpa using e1
    obtain ⟨⟨x0,x1,x2,x3⟩,xf⟩:=D5.b2;obtain ⟨⟨z0,z1,z2,z3⟩,-⟩:=D5.b6;go_wp2;refine bodyPost_ret (v:=.tuple #[x.v,.int .i64 p,.int .i64 0]) (by simp [results,results12,go_sem,x0,x1,x2,x3]) rfl ⟨x,p,0,B,T,rfl,HM.out,?_,?_,?_,?_,by omega,by omega⟩
    ·exact D5.set4 _ _ _ _
    ·have:=D5.sz
     omega
    ·have:=D5.sz
     have:=D5.b6.lt;simp;omega
    ·exact (((D5.be.setCell (Nat.le_refl _) _).setCell (Nat.le_refl _) _).setCell (Nat.le_refl _) _).setCell (Nat.le_refl _) _
theorem qki (W0 len cap:Nat) (a0:Option Addr) (w:World) (hB:qb5 w W0 a0 len) (hW:W0<=w.heap.size) (ln:len<=1048576):
  Calls prog 5 #[.slice a0 len cap] w (DrwA w):=by
 have C0:Hid (qb5 (w.alloc (zQ3)) W0 a0 len/\W0<=(w.alloc (zQ3)).heap.size/\Bw w (w.alloc (zQ3))/\Bx (w.alloc (zQ3)) w.heap.size nS nS nS nS/\(w.alloc (zQ3)).heap.size=w.heap.size+1):=⟨hB.kept (fun k hk=>(zQ w (zQ3)).block k (by omega)),by simp;omega,zQ _ _,Bx.new w _ _ _ _ _,by simp⟩
 clear hB
 go_enter func5,ntmps5
 go_wp2_with fail
 generalize w.alloc (zQ3)=W2 at *;refine (qle W0 len cap a0 W2 C0.1 C0.2.1 ln).mono ?_;rintro e w2 ⟨x,a,b,B,T,rfl,hm,hX,hBl,hT,hb,ha1,hb1⟩;have HM:Hid x.y.Sm:=hm;have hab:(-1<=a/\a<=16)/\(-1<=b/\b<=1000):=⟨ha1,hb1⟩
 have F:Hid (SysX (w2.alloc (x.oX)) B T x/\Bx (w2.alloc (x.oX)) w.heap.size nS nS nS nS/\Bx (w2.alloc (x.oX)) w2.heap.size (.slice x.pa x.pn x.pc) (.slice x.sa x.sn x.sc) (.slice x.wa x.wn x.wc) (.slice x.ha x.hn x.hc)/\Bw w (w2.alloc (x.oX))/\w.heap.size<B/\T<=w2.heap.size):=by
  have h1:=C0.2.2.2.2;have h2:=hb.size;exact ⟨hX.keep (by simp) fun b _ _ hl=>(zQ w2 _).block b hl,(C0.2.2.2.1.below hb).below (zQ _ _),Bx.new _ _ _ _ _ _,(C0.2.2.1.trans (hb.mono (by omega))).trans ((zQ _ _).mono (by omega)),by omega,hT⟩
 clear hX hBl hT hb hm ha1 hb1 C0;go_upto_region 2 with fail
 generalize w2.alloc (x.oX)=wA at *;generalize w2.heap.size=M at *;obtain ⟨⟨x0,x1,x2,x3⟩,xf⟩:=F.2.1;obtain ⟨⟨z0,z1,z2,z3⟩,-⟩:=F.2.2.1;go_wp2;refine bodyPost_ret (v:=.tuple #[x.v,.int .i64 a,.int .i64 b]) (by simp [results,results5,go_sem,x0,x1,x2,x3]) rfl ⟨x,a,b,B,T,rfl,HM.out,?_,?_,?_,?_,hab.1,hab.2⟩
 ·exact F.1.keep (by simp) fun b hb _ _=>by
   have:=F.2.2.2.2.1;rw [zO _ _ _ _ (by show b≠w.heap.size;omega),zO _ _ _ _ (by show b≠w.heap.size;omega),zO _ _ _ _ (by show b≠w.heap.size;omega),zO _ _ _ _ (by show b≠w.heap.size;omega)]
 ·exact Nat.le_of_lt F.2.2.2.2.1
 ·have:=F.2.2.2.2.2
  have:=F.2.2.1.lt;simp;omega
 ·exact (((F.2.2.2.1.setCell (Nat.le_refl _) _).setCell (Nat.le_refl _) _).setCell (Nat.le_refl _) _).setCell (Nat.le_refl _) _
structure WJ (w wr:World) (X:Nat) (x:SysIn):Prop where
 g:SysG wr x
 bx:x.bX wr X
 be:Bw w wr
theorem WJ.below {w wr w':World} {X:Nat} {x:SysIn} (h:WJ w wr X x) (hb:Bw wr w'):WJ w w' X x:=⟨h.g.below hb,h.bx.below hb,h.be.trans (hb.mono h.be.size)⟩
theorem WJ.lt {w wr:World} {X:Nat} {x:SysIn} (h:WJ w wr X x):X<wr.heap.size:=zJ wr _ h.bx.1
theorem qai.inJ {z:Bool} {w:World} {B:Nat} {y:Sy} {v:Value} (o:qai z w B y v):∃ x:SysIn,v=x.v/\x.y=y/\SysG w x/\(∀ i,i<x.hn->x.hL i<=x.hC i)/\x.Nn false:=by
 obtain ⟨x,e1,e2,h⟩:=o.sysT.x;exact ⟨x,e1,e2,h.self,h.cap,h.nn⟩
theorem qw3 {y:Sy} (_:y.Ok) {d:Nat->Nat} (h:y.hs.Put d):y.Wh d:=by
 induction h with
 | start=>exact fun a _ b _=>Nat.zero_le _
 | @next d p hput hp hc ih=>
  intro a ha b hb;have h0:=ih a ha b hb;unfold tN sN at *
  have hs : cnt (y.hH a) 2 b (d a) ≤ cnt (y.hH a) 2 b (up d p a) := qc5 _ _ _ (by
   by_cases e:a=p
   ·subst e
    rw [qbi];omega
   ·rw [up_other e]
    exact Nat.le_refl _)
  by_cases e:b=p
  ·subst e
   rw [qbi]
   rcases zK (hitB (y.hH b) 3 a (d b)) with t | t
   ·rw [qd9 t]
    obtain ⟨t1,t2⟩:=qc9.1 t;have h1:cnt (y.hH b) 3 (y.hH b (d b)).q (d b)<cnt (y.hH (y.hH b (d b)).q.toNat) 2 b (d (y.hH b (d b)).q.toNat):=hc.2 t1;rw [t2,Int.toNat_natCast] at h1;omega
   ·rw [qhs t]
    omega
  ·rw [up_other e]
   omega
theorem Hs.Put.upto {x:Hs} {d:Nat->Nat} (h:x.Put d):∀ p i,i<=d p->∃ d',x.Put d'/\d' p=i:=by
 induction h with
 | start=>
  intro p i hi;have hi:i<=0:=hi;exact ⟨_,.start,(Nat.le_zero.1 hi).symm⟩
 | @next d p0 hput hp0 hc ih=>
  intro p i hi;by_cases e:i<=d p
  ·exact ih p i e
  ·refine ⟨_,.next hput hp0 hc,?_⟩
   by_cases ep:p=p0
   ·subst ep
    rw [qbi] at hi ⊢;omega
   ·rw [up_other ep] at hi
    exact absurd hi e
theorem qpa {y:Sy} {P:Nat} {k:Int} (h:bkC y P k=0):((bkY y P k).hL P:Int)=k:=by
 obtain ⟨hO,hb,-,ht,-,-⟩:=qkt h;obtain ⟨P',e,hP,k0,k1⟩:=qes hb;obtain rfl:P=P':=by omega
 have hc:=qe9 hO hb;rw [Int.toNat_natCast] at hc;have s:=(qeu hc).1;obtain ⟨dA,hA,hall⟩:=hO.ro;have h1:dA P=y.hL P:=hall P hP;obtain ⟨d,hd,ed⟩:=hA.upto P k.toNat (by omega);have hle:=hd.le
 have g := s.gr d (fun q hq => by
  rw [qve hO hP k hq];have h2:d q<=y.hL q:=hle q;by_cases eq:q=P
  ·rw [if_pos eq,eq,ed]
   omega
  ·rw [if_neg eq]
   omega) (qw3 hO hd) P hP
 have u:=(s.le P hP)
 rw [qve hO hP k hP,if_pos rfl] at u;rw [ed] at g;rw [ht];show (((zi (bkE y P k) P).toNat:Nat):Int)=k
 have e2:zi (bkE y P k) P=zi (clS y (bkL y P k)) P:=by
  unfold bkE;rw [Int.toNat_natCast]
 rw [e2];omega
def Sy.SameP (y Y:Sy):Prop:=y.pn=Y.pn/\∀ p,p<y.pn->(y.pL p=Y.pL p/\∀ i,i<y.pL p->y.pH p i=Y.pH p i)
theorem qja (x y:SysIn) (w:World) (hx:SysG w x) (hy:SysG w y) (hL:x.Len) (hM:y.Len):
  Calls prog 74 #[.slice x.pa x.pn x.pc,.slice y.pa y.pn y.pc,.func (.func 75) #[] #[]] w fun e w'=>qc2 e (x.y.SameP y.y)/\Bw w w':=by
 have HX:Hid (SysG w x):=hx;have HY:Hid (SysG w y):=hy;have HLx:Hid (∀ i,i<x.pn->x.pL i<=1048576):=hL.p.2;have HLy:Hid (∀ i,i<y.pn->y.pL i<=1048576):=hM.p.2;have hn':(x.pn:Int)<=1048576:=by have:=hL.p.1;omega
 clear hx hy hL hM;by_cases hnm:x.pn=y.pn
 case neg=>
  have hnm':¬ ((x.pn:Int)=(y.pn:Int)):=by omega
  have HR:Hid (¬ x.y.SameP y.y):=fun h=>absurd h.1 hnm
  go_enter func74,ntmps74
  go_wp2;go_ret;exact ⟨qc2.no HR.out,Below.refl _ _⟩
 have HNM:Hid (x.pn=y.pn):=hnm;have hnm':(x.pn:Int)=(y.pn:Int):=by omega
 clear hnm
 go_enter func74,ntmps74
 go_wp2_with fail
 go_loopw [17] (fun i wr=>∃ k:Nat,k<=x.pn/\i=.int .i64 k/\Hid (Bw w wr/\∀ p,p<k->(x.pL p=y.pL p/\∀ i,i<x.pL p->x.pH p i=y.pH p i))) (fun i _=>x.pn - (intOf i).toNat)
 case atStart=>exact ⟨0,Nat.zero_le _,rfl,Below.refl _ _,fun i hi=>by omega⟩
 case round=>
  obtain ⟨k,hk,rfl,HK⟩:=hrel;by_cases hlt:k<x.pn
  ·have hlt':(k:Int)<(x.pn:Int):=by omega
   have hly:k<y.pn:=by have:=HNM.out;omega
   have hly':(k:Int)<(y.pn:Int):=by omega
   obtain ⟨b,o,eb,cb⟩:=(HX.below HK.1).p.at hlt;obtain ⟨b',o',eb',cb'⟩:=(HY.below HK.1).p.at hly;obtain ⟨c,ec,lc,ic⟩:=(HX.below HK.1).pi k hlt;obtain ⟨c',ec',lc',ic'⟩:=(HY.below HK.1).pi k hly;rw [ec] at cb;rw [ec'] at cb';rw [eb,eb'];have HQ:Hid (Calls prog 75 #[.slice (some ⟨c,0,none⟩) (x.pL k) (x.pC k),.slice (some ⟨c',0,none⟩) (y.pL k) (y.pC k)] wr fun e w'=>qc2 e (x.pL k=y.pL k/\∀ i,i<x.pL k->x.pH k i=y.pH k i)/\Bw wr w'):=qky c c' (x.pL k) (y.pL k) (x.pC k) (y.pC k) (x.pH k) (y.pH k) wr (HLx.out k hlt) (HLy.out k hly) lc lc' ic ic';clear ic ic' lc lc' ec ec' eb eb';go_wp2_with (go_at_call 75;refine HQ.mono ?_;rintro e w1 ⟨⟨t,rfl,ht⟩,b1⟩;have HT:Hid (t=true ↔ _):=ht;have HB:Hid (Bw w w1):=HK.1.trans (b1.mono HK.1.size);clear ht b1)
   ·have ht:t=false:=by
     cases t with
     | false=>rfl
     | true=>exact absurd (show (!true)=true by assumption) (by decide)
    go_ret;exact ⟨qc2.no fun h=>by have:=HT.2 (h.2 k hlt);rw [ht] at this;exact Bool.noConfusion this,HB.out⟩
   ·have ht:t=true:=by
     cases t with
     | true=>rfl
     | false=>exact absurd (show (!false)=false by assumption) (by decide)
    have HE:Hid (∀ p,p<k+1->(x.pL p=y.pL p/\∀ i,i<x.pL p->x.pH p i=y.pH p i)):=fun p hp=>by
     by_cases e:p=k
     ·subst e
      exact HT.1 ht
     ·exact HK.2 p (by omega)
    go_roundw
    case rel=>exact ⟨k+1,by omega,by go_num,HB.out,HE.out⟩
    case measure=>simp [intOf];omega
  ·have hkn:k=x.pn:=by omega
   have HR:Hid (x.y.SameP y.y/\Bw w wr):=⟨⟨HNM.out,fun p hp=>HK.2 p (by rw [hkn];exact hp)⟩,HK.1⟩
   have hge:(x.pn:Int)<=(k:Int):=by omega
   clear hkn hlt hk HK;go_wp2;go_ret;exact ⟨qc2.yes HR.1,HR.2⟩
theorem qj6 (x y:SysIn) (w:World) (hx:SysG w x) (hy:SysG w y) (hL:x.Len) (hM:y.Len):
  Calls prog 31 #[x.v,y.v] w fun e w'=>qc2 e (x.y.SameP y.y)/\Bw w w':=by
 have HQ:Hid (∀ wx,Bw w wx->Calls prog 74 #[.slice x.pa x.pn x.pc,.slice y.pa y.pn y.pc,.func (.func 75) #[] #[]] wx fun e w'=>qc2 e (x.y.SameP y.y)/\Bw wx w'):=fun wx hb=>qja x y wx (hx.below hb) (hy.below hb) hL hM;have BW:Hid (Bw w ((w.alloc (x.oX)).alloc (oQ4 y.pa y.pn y.pc y.sa y.sn y.sc y.wa y.wn y.wc y.ha y.hn y.hc))):=(zT _ _).trans ((zT _ _).mono (by simp));clear hx hy hL hM
 go_enter func31,ntmps31
 go_wp2_with (go_at_call 74;refine (HQ.out _ BW.out).mono ?_;rintro e w1 ⟨⟨t,rfl,ht⟩,b1⟩;have HT:Hid (t=true ↔ _):=ht;have HB:Hid (Bw w w1):=BW.trans (b1.mono BW.size);clear ht b1)
 go_ret;exact ⟨⟨t,rfl,HT.out⟩,HB.out⟩
open Go.ChangeShapes Go.WideShapes Go.ChangeAt
def Sy.Fo (y Y:Sy):Prop:=(y.okB=true/\Y.okB=true)/\y.pn=Y.pn/\∀ p,p<y.pn->((y.pL p=Y.pL p/\∀ i,i<y.pL p->y.pH p i=Y.pH p i)/\(y.hL p<=Y.hL p/\∀ i,i<y.hL p->y.hH p i=Y.hH p i))
structure F2 (w wr:World) (x X:SysIn):Prop where
 gx:SysG wr x
 gX:SysG wr X
 bx:x.bX wr w.heap.size
 bX:BoxC wr (w.heap.size+1) (.slice X.pa X.pn X.pc) (.slice X.sa X.sn X.sc) (.slice X.wa X.wn X.wc) (.slice X.ha X.hn X.hc)
 be:Bw w wr
theorem F2.below {w wr w':World} {x X:SysIn} (h:F2 w wr x X) (hb:Bw wr w'):F2 w w' x X:=⟨h.gx.below hb,h.gX.below hb,h.bx.below hb,h.bX.below hb,h.be.trans (hb.mono h.be.size)⟩
theorem F2.new {w:World} {x X:SysIn} (hx:SysG w x) (hX:SysG w X) (t:TypeId):F2 w ((w.alloc (.cells #[.slice x.pa x.pn x.pc,.slice x.sa x.sn x.sc,.slice x.wa x.wn x.wc,.slice x.ha x.hn x.hc] t)).alloc (.cells #[.slice X.pa X.pn X.pc,.slice X.sa X.sn X.sc,.slice X.wa X.wn X.wc,.slice X.ha X.hn X.hc] t)) x X:=by
 have a1:=zT w (.cells #[.slice x.pa x.pn x.pc,.slice x.sa x.sn x.sc,.slice x.wa x.wn x.wc,.slice x.ha x.hn x.hc] t);have a2:=zT (w.alloc (.cells #[.slice x.pa x.pn x.pc,.slice x.sa x.sn x.sc,.slice x.wa x.wn x.wc,.slice x.ha x.hn x.hc] t)) (.cells #[.slice X.pa X.pn X.pc,.slice X.sa X.sn X.sc,.slice X.wa X.wn X.wc,.slice X.ha X.hn X.hc] t);have e1:(w.alloc (.cells #[.slice x.pa x.pn x.pc,.slice x.sa x.sn x.sc,.slice x.wa x.wn x.wc,.slice x.ha x.hn x.hc] t)).heap.size=w.heap.size+1:=by simp
 have b:=a1.trans (a2.mono (by omega));have n2:=BoxC.new (w.alloc (.cells #[.slice x.pa x.pn x.pc,.slice x.sa x.sn x.sc,.slice x.wa x.wn x.wc,.slice x.ha x.hn x.hc] t)) (.slice X.pa X.pn X.pc) (.slice X.sa X.sn X.sc) (.slice X.wa X.wn X.wc) (.slice X.ha X.hn X.hc) t;rw [e1] at n2;exact ⟨hx.below b,hX.below b,(BoxC.new w _ _ _ _ t).below a2,n2,b⟩
theorem F2.lt {w wr:World} {x X:SysIn} (h:F2 w wr x X):w.heap.size+1<wr.heap.size:=zJ wr _ h.bX.1
theorem qvh {y:Sy} {p k:Int} (h:bkC y p k=0):(bkY y p k).Fo y:=by
 obtain ⟨hO,-,hO',e,hd,-⟩:=qkt h;refine ⟨⟨Sy.okB_true hO',Sy.okB_true hO⟩,?_⟩;rw [e];exact ⟨rfl,fun q hq=>⟨⟨rfl,fun _ _=>rfl⟩,hd q hq,fun _ _=>rfl⟩⟩
theorem qvi {y:Sy} {P:Nat} {k:Int} (h:bkC y P k=0) {q:Nat} (hq:q<y.pn) (hne:q≠P) (hl:(bkY y P k).hL q<y.hL q):k≠(y.hL P:Int)/\hgB y q ((bkY y P k).hL q:Nat) P k=true:=by
 obtain ⟨hO,hb,-,e,hd,hw⟩:=qkt h;obtain ⟨P',eP,hP,k0,k1⟩:=qes hb;obtain rfl:P=P':=by omega
 have hk:k≠(y.hL P:Int):=fun ek=>by
  subst ek;obtain ⟨-,e1,e2⟩:=qs3 hO hP;rw [e1] at hl;have h3:=(e2 q hq).1;have hl':cN (flT y y.hn) q<y.hL q:=hl;omega
 refine ⟨hk,?_⟩;obtain ⟨K,rfl⟩:∃ K:Nat,k=K:=⟨k.toNat,by omega⟩
 have hc:=qe9 hO hb;rw [Int.toNat_natCast] at hc;have s:=(qeu hc).1;have hm:(bkY y P (K:Int)).hL q=cN (bkE y P (K:Int)) q:=by rw [e];rfl
 rw [hm] at hl ⊢;have hE:bkE y P (K:Int)=clS y (bkL y P (K:Int)):=by unfold bkE;rw [Int.toNat_natCast]
 obtain ⟨D,hD,hall⟩:=hO.ckx;have hlD:cN (bkE y P (K:Int)) q<D q:=by rw [hall q hq];exact hl
 refine qwx hO hq hl hP (by omega) (.inl hne) ?_;refine Classical.byContradiction fun hn=>?_;have g:=s.gr (fun p=>max (cN (bkE y P (K:Int)) p) (clk y q (cN (bkE y P (K:Int)) q) p)) (fun p hp=>?_) (qw9 hw (qqo hO hq hl)) q hq
 ·rw [hD.self q hq _ hlD] at g
  rw [<- hE] at g;have h5:=(s.le q hq).1;rw [<- hE] at h5;unfold cN at g;omega
 ·have h1:=(s.le p hp)
  rw [<- hE] at h1;have h2:(cN (bkE y P (K:Int)) p:Int)<=zi (bkL y P (K:Int)) p:=by unfold cN;omega
  have h3:(clk y q (cN (bkE y P (K:Int)) q) p:Int)<=zi (bkL y P (K:Int)) p:=by
   have h4:=hD.le q hq _ hlD p;rw [hall p hp] at h4;unfold bkL;rw [qiz (by rw [qci,hO.cn.2.2.1];exact hP)];by_cases ep:p=P
   ·rw [if_pos ep,ep]
    omega
   ·rw [if_neg ep,qiy (by rw [hO.cn.2.2.1];exact hp)]
    omega
  have h6:((max (cN (bkE y P (K:Int)) p) (clk y q (cN (bkE y P (K:Int)) q) p):Nat):Int)=max (cN (bkE y P (K:Int)) p:Int) (clk y q (cN (bkE y P (K:Int)) q) p:Int):=by omega
  omega
open Go.Shelf
theorem qph (dp:Nat) (hdp:1<=dp) (Bs Bo m c:Nat) (x y:Hv) (hxy:x.n<=y.n) (hn:x.n<=1048576) (hl:∀ i,i<x.n->x.L i<=1048576/\y.L i<=1048576) (d:Nat->Nat)
  (hd:∀ i,i<x.n->∀ r,Al (x.g i) (y.g i) (min (x.L i) (y.L i)) r->x.L i - r=d i) (w:World) (hm:m<=w.heap.size) (hcm:c<=m) (hF:∀ W',Kq m c w W'->x.In W' Bs/\y.In W' Bo):
  SeqStopsK Fence.wide dp prog 76 #[.pointer (some (aQ Bs 0)),.pointer (some (aQ Bo 0))] (fun z:Fin x.n × Nat=>#[Value.int .i64 (z.1.val:Nat),Value.int .i64 (z.2:Nat)]) (Kq m c)
   (fun ys=>ys=gnL x.n d x.n (Nat.le_refl _)) (fun pre=>∃ k,∃ h:k<x.n,0<d k/\pre=gnL x.n d (k+1) h) x.n w:=fun l J Jx W hW hJ _ hY h0=>
 qtc dp hdp l Bs Bo m c x y hxy hn hl d hd W (zP hm hW.size) hcm (fun W' hk=>hF W' ((Kq.of hW hm hcm).trans hk)) J Jx hJ hY h0
theorem qtd (v1 v2 v3 v4 u1 u2 u3 u4:Value) (w:World):
  Calls prog 32 #[.agg #[v1,v2,v3,v4],.agg #[u1,u2,u3,u4]] w fun e w'=>e=.returned (.func (.func 76) #[] #[.pointer (some (aQ w.heap.size 0)),.pointer (some ⟨w.heap.size+1,0,none⟩)])/\w'=(w.alloc (.cells #[v1,v2,v3,v4] 29)).alloc (.cells #[u1,u2,u3,u4] 29):=by
 go_enter func32,ntmps32
 go_wp2;go_ret;exact ⟨rfl,rfl⟩
attribute [local go_sem] Oper.semAt_some
theorem qq3 {n:Nat} {d:Nat->Nat}:∀ (k:Nat) (h:k<=n),gnL n d k h=[]->∀ i,i<k->d i=0
 | 0,_,_,i,hi=>absurd hi (Nat.not_lt_zero i)
 | k+1,h,e,i,hi=>by
  by_cases hd:0<d k
  ·rw [qmp h hd] at e
   simp at e
  ·rw [qn3 h hd] at e
   by_cases e':i=k
   ·rw [e'];omega
   ·exact qq3 k (Nat.le_of_succ_le h) e i (by omega)
structure F3 (w wr:World) (x X:SysIn):Prop where
 f:F2 w wr x X
 rc:wr.cell? ⟨w.heap.size+1+1,0,none⟩=some (.bool false)
 rf:wr.frozen? ⟨w.heap.size+1+1,0,none⟩=false
theorem F3.lt {w wr:World} {x X:SysIn} (h:F3 w wr x X):w.heap.size+1+1<wr.heap.size:=zJ wr _ h.rc
theorem F3.below {w wr w':World} {x X:SysIn} (h:F3 w wr x X) (hb:Bw wr w'):F3 w w' x X:=⟨h.f.below hb,(hb.cell (p:=⟨w.heap.size+1+1,0,none⟩) h.lt).trans h.rc,((qag hb).2 _ 0 h.lt).trans h.rf⟩
theorem F3.new {w wr:World} {x X:SysIn} (h:F2 w wr x X) (e:wr.heap.size=w.heap.size+1+1) (t:TypeId):F3 w (wr.alloc (.cells #[.bool false] t)) x X:=by
 have a:=zT wr (.cells #[.bool false] t);refine ⟨h.below a,?_,?_⟩
 ·rw [<- e];simp
 ·rw [<- e];exact yD _ _ _ _ rfl
theorem qjg (x X:SysIn) (w:World) (hG:SysG w x) (hG':SysG w X) (hL:x.Len) (hL':X.Len) (hV:w.cell? (aQ 0 0)=some vT):
  Calls prog 10 #[x.v,X.v] w fun e w'=>qc2 e (x.y.Fo X.y)/\Bw w w':=by
 have H0:Hid (F3 w (((w.alloc (x.oX)).alloc (oQ4 X.pa X.pn X.pc X.sa X.sn X.sc X.wa X.wn X.wc X.ha X.hn X.hc)).alloc (.cells #[.bool false] 4)) x X):=F3.new (F2.new hG hG' _) (by simp) _;have HV:Hid (w.cell? (aQ 0 0)=some vT):=hV;have HV0:Hid (0<w.heap.size):=zJ w _ hV;have HO:Hid (∀ wx,SysG wx x->wx.cell? ⟨0,0,none⟩=some (.iface 195 (.agg #[.pointer (some ⟨1,132,none⟩)]))->Calls prog 9 #[x.v] wx (rB wx (.bool x.y.okB))):=fun wx g v=>qbp x wx g hL v;have HO':Hid (∀ wx,SysG wx X->wx.cell? ⟨0,0,none⟩=some (.iface 195 (.agg #[.pointer (some ⟨1,132,none⟩)]))->Calls prog 9 #[X.v] wx (rB wx (.bool X.y.okB))):=fun wx g v=>qbp X wx g hL' v;obtain ⟨sp,hsp⟩:∃ sp:Bool,(sp=true ↔ x.y.SameP X.y):=by classical exact ⟨decide (x.y.SameP X.y),by simp⟩
 have HS:Hid (∀ wx,SysG wx x->SysG wx X->Calls prog 31 #[x.v,X.v] wx (rB wx (.bool sp))):=fun wx g g'=>(qj6 x X wx g g' hL hL').mono fun e w' h=>by
  obtain ⟨⟨t,rfl,ht⟩,hb⟩:=h;exact ⟨by rw [show t=sp from Bool.eq_iff_iff.2 (ht.trans hsp.symm)],hb⟩
 have HL:Hid (x.Len/\X.Len):=⟨hL,hL'⟩
 have HSP:Hid (sp=true ↔ x.y.SameP X.y):=hsp;clear hL hL' hG hG' hV hsp;have HOk:Hid ((x.y.okB=true->x.hn=x.pn)/\(X.y.okB=true->X.hn=X.pn)):=⟨fun h=>(Sy.ok_of h).cn.2.2.1,fun h=>(Sy.ok_of h).cn.2.2.1⟩
 obtain ⟨tx,htx⟩:∃ t,x.y.okB=t:=⟨_,rfl⟩
 obtain ⟨tX,htX⟩:∃ t,X.y.okB=t:=⟨_,rfl⟩
 have HF:Hid (x.y.Fo X.y->(tx=true/\tX=true)/\sp=true):=fun h=>by rw [<- htx,<- htX];exact ⟨h.1,HSP.2 ⟨h.2.1,fun p hp=>(h.2.2 p hp).1⟩⟩
 have HF2:Hid (tx=true/\tX=true->x.y.SameP X.y->(∀ j,j<x.pn->(x.hL j<=X.hL j/\∀ i,i<x.hL j->x.hH j i=X.hH j i))->x.y.Fo X.y):=fun h hp hq=>⟨by rw [htx,htX];exact h,hp.1,fun p hpl=>⟨hp.2 p hpl,hq p hpl⟩⟩
 have HF3:Hid (x.y.Fo X.y->∀ j,j<x.pn->(x.hL j<=X.hL j/\∀ i,i<x.hL j->x.hH j i=X.hH j i)):=fun h j hj=>(h.2.2 j hj).2;rw [htx] at HO HOk;rw [htX] at HO' HOk;clear htx htX;obtain ⟨k0,k1,k2,k3⟩:=H0.f.bx;refine (callsIn_wide (n:=3)).1 ?_;refine callsIn_of_wp_marks func10 rfl trivial ?_ rfl;simp only [ntmps10,List.size_toArray,List.length_cons,List.length_nil,Nat.reduceAdd,Nat.reduceSub,Array.replicate_succ,Array.replicate_zero,List.push_toArray,List.append_toArray,List.nil_append,List.cons_append];cases tx with
 | false=>
  gi_wp2_with (refine ⟨trivial,?_⟩;gi_at_call 9;refine (callsIn_wide.2 (HO.out _ H0.f.gx ((H0.f.be.cell (p:=(aQ 0 0)) HV0.out).trans HV.out))).mono ?_;rintro e w1 ⟨rfl,b1⟩;have H1:Hid (F3 w w1 x X):=H0.below b1;obtain ⟨m0,m1,m2,m3⟩:=H1.f.bX;obtain ⟨k0,k1,k2,k3⟩:=H1.f.bx;have r0:=H1.rc;have rf:=H1.rf;clear HO b1)
  refine ⟨trivial,?_⟩
  gi_wp2
  refine ⟨trivial,?_⟩
  gi_wp2
  have hs:=World.cell?_setCell_same' w1 ⟨w.heap.size+1+1,0,none⟩ (.bool false) (by rw [r0];rfl);refine ⟨.bool false,?_,qc2.no (fun h=>Bool.noConfusion (HF.out h).1.1),H1.f.be.setCell (p:=⟨w.heap.size+1+1,0,none⟩) (by show w.heap.size<=w.heap.size+1+1;omega) _⟩;simp [results,f10,go_sem,hs]
 | true=>
 cases tX with
 | false=>
  gi_wp2_with (first|(refine ⟨trivial,?_⟩;gi_at_call 9;refine (callsIn_wide.2 (HO.out _ H0.f.gx ((H0.f.be.cell (p:=(aQ 0 0)) HV0.out).trans HV.out))).mono ?_;rintro e w1 ⟨rfl,b1⟩;have H1:Hid (F3 w w1 x X):=H0.below b1;obtain ⟨m0,m1,m2,m3⟩:=H1.f.bX;obtain ⟨k0,k1,k2,k3⟩:=H1.f.bx;have r0:=H1.rc;have rf:=H1.rf;clear HO b1)|(refine ⟨trivial,?_⟩;gi_at_call 9;refine (callsIn_wide.2 (HO'.out _ H1.f.gX ((H1.f.be.cell (p:=(aQ 0 0)) HV0.out).trans HV.out))).mono ?_;rintro e w2 ⟨rfl,b2⟩;clear m0 m1 m2 m3 k0 k1 k2 k3 r0 rf;have H2:Hid (F3 w w2 x X):=H1.below b2;obtain ⟨m0,m1,m2,m3⟩:=H2.f.bX;obtain ⟨k0,k1,k2,k3⟩:=H2.f.bx;have r0:=H2.rc;have rf:=H2.rf;clear HO' b2))
  refine ⟨trivial,?_⟩
  gi_wp2
  have hs:=World.cell?_setCell_same' w2 ⟨w.heap.size+1+1,0,none⟩ (.bool false) (by rw [r0];rfl);refine ⟨.bool false,?_,qc2.no (fun h=>Bool.noConfusion (HF.out h).1.2),H2.f.be.setCell (p:=⟨w.heap.size+1+1,0,none⟩) (by show w.heap.size<=w.heap.size+1+1;omega) _⟩;simp [results,f10,go_sem,hs]
 | true=>
 cases sp with
 | false=>
  gi_wp2_with (first|(refine ⟨trivial,?_⟩;gi_at_call 9;refine (callsIn_wide.2 (HO.out _ H0.f.gx ((H0.f.be.cell (p:=(aQ 0 0)) HV0.out).trans HV.out))).mono ?_;rintro e w1 ⟨rfl,b1⟩;have H1:Hid (F3 w w1 x X):=H0.below b1;obtain ⟨m0,m1,m2,m3⟩:=H1.f.bX;obtain ⟨k0,k1,k2,k3⟩:=H1.f.bx;have r0:=H1.rc;have rf:=H1.rf;clear HO b1)|(refine ⟨trivial,?_⟩;gi_at_call 9;refine (callsIn_wide.2 (HO'.out _ H1.f.gX ((H1.f.be.cell (p:=(aQ 0 0)) HV0.out).trans HV.out))).mono ?_;rintro e w2 ⟨rfl,b2⟩;clear m0 m1 m2 m3 k0 k1 k2 k3 r0 rf;have H2:Hid (F3 w w2 x X):=H1.below b2;obtain ⟨m0,m1,m2,m3⟩:=H2.f.bX;obtain ⟨k0,k1,k2,k3⟩:=H2.f.bx;have r0:=H2.rc;have rf:=H2.rf;clear HO' b2)|(refine ⟨trivial,?_⟩;gi_at_call 31;refine (callsIn_wide.2 (HS.out _ H2.f.gx H2.f.gX)).mono ?_;rintro e w3 ⟨rfl,b3⟩;clear m0 m1 m2 m3 k0 k1 k2 k3 r0 rf;have H3:Hid (F3 w w3 x X):=H2.below b3;obtain ⟨m0,m1,m2,m3⟩:=H3.f.bX;obtain ⟨k0,k1,k2,k3⟩:=H3.f.bx;have r0:=H3.rc;have rf:=H3.rf;clear HS b3))
  have hs:=World.cell?_setCell_same' w3 ⟨w.heap.size+1+1,0,none⟩ (.bool false) (by rw [r0];rfl);refine ⟨.bool false,?_,qc2.no (fun h=>Bool.noConfusion (HF.out h).2),H3.f.be.setCell (p:=⟨w.heap.size+1+1,0,none⟩) (by show w.heap.size<=w.heap.size+1+1;omega) _⟩;simp [results,f10,go_sem,hs]
 | true=>
 have HNN:Hid (x.hn=x.pn/\X.hn=X.pn/\x.pn=X.pn):=⟨HOk.1 rfl,HOk.2 rfl,(HSP.1 rfl).1⟩
 have HF4:Hid ((∀ j,j<x.pn->(x.hL j<=X.hL j/\∀ i,i<x.hL j->x.hH j i=X.hH j i))->x.y.Fo X.y):=HF2.out ⟨rfl,rfl⟩ (HSP.1 rfl);clear HOk HF2 HSP HF
 gi_wp2_with (first|(refine ⟨trivial,?_⟩;gi_at_call 9;refine (callsIn_wide.2 (HO.out _ H0.f.gx ((H0.f.be.cell (p:=(aQ 0 0)) HV0.out).trans HV.out))).mono ?_;rintro e w1 ⟨rfl,b1⟩;have H1:Hid (F3 w w1 x X):=H0.below b1;obtain ⟨m0,m1,m2,m3⟩:=H1.f.bX;obtain ⟨k0,k1,k2,k3⟩:=H1.f.bx;have r0:=H1.rc;have rf:=H1.rf;clear HO b1)|(refine ⟨trivial,?_⟩;gi_at_call 9;refine (callsIn_wide.2 (HO'.out _ H1.f.gX ((H1.f.be.cell (p:=(aQ 0 0)) HV0.out).trans HV.out))).mono ?_;rintro e w2 ⟨rfl,b2⟩;clear m0 m1 m2 m3 k0 k1 k2 k3 r0 rf;have H2:Hid (F3 w w2 x X):=H1.below b2;obtain ⟨m0,m1,m2,m3⟩:=H2.f.bX;obtain ⟨k0,k1,k2,k3⟩:=H2.f.bx;have r0:=H2.rc;have rf:=H2.rf;clear HO' b2)|(refine ⟨trivial,?_⟩;gi_at_call 31;refine (callsIn_wide.2 (HS.out _ H2.f.gx H2.f.gX)).mono ?_;rintro e w3 ⟨rfl,b3⟩;clear m0 m1 m2 m3 k0 k1 k2 k3 r0 rf;have H3:Hid (F3 w w3 x X):=H2.below b3;obtain ⟨m0,m1,m2,m3⟩:=H3.f.bX;obtain ⟨k0,k1,k2,k3⟩:=H3.f.bx;have r0:=H3.rc;have rf:=H3.rf;clear HS b3)|(refine ⟨trivial,?_⟩;gi_at_call 32;refine (callsIn_wide.2 (qtd _ _ _ _ _ _ _ _ _)).mono ?_;rintro e w' ⟨rfl,rfl⟩))
 clear m0 m1 m2 m3 k0 k1 k2 k3 r0 rf H0 H1 H2 HV HV0;have a1:=zT w3 (x.oX);have a2:=zT (w3.alloc (x.oX)) (oQ4 X.pa X.pn X.pc X.sa X.sn X.sc X.wa X.wn X.wc X.ha X.hn X.hc);have z1:(w3.alloc (x.oX)).heap.size=w3.heap.size+1:=by simp
 have z2:((w3.alloc (x.oX)).alloc (oQ4 X.pa X.pn X.pc X.sa X.sn X.sc X.wa X.wn X.wc X.ha X.hn X.hc)).heap.size=w3.heap.size+1+1:=by simp
 have n1:=(BoxC.new w3 (.slice x.pa x.pn x.pc) (.slice x.sa x.sn x.sc) (.slice x.wa x.wn x.wc) (.slice x.ha x.hn x.hc) 29).2.2.2;have n2:=(BoxC.new (w3.alloc (x.oX)) (.slice X.pa X.pn X.pc) (.slice X.sa X.sn X.sc) (.slice X.wa X.wn X.wc) (.slice X.ha X.hn X.hc) 29).2.2.2;dsimp only [Bw] at a2;rw [z1] at n2 a2;have n1':=(a2.cell (p:=(aQ w3.heap.size 3)) (by show w3.heap.size<w3.heap.size+1;omega)).trans n1;have aa:Bw w3 ((w3.alloc (x.oX)).alloc (oQ4 X.pa X.pn X.pc X.sa X.sn X.sc X.wa X.wn X.wc X.ha X.hn X.hc)):=a1.trans (a2.mono (by omega));have H4:Hid (F3 w ((w3.alloc (x.oX)).alloc (oQ4 X.pa X.pn X.pc X.sa X.sn X.sc X.wa X.wn X.wc X.ha X.hn X.hc)) x X):=H3.below aa;have HB:Hid (((w3.alloc (x.oX)).alloc (oQ4 X.pa X.pn X.pc X.sa X.sn X.sc X.wa X.wn X.wc X.ha X.hn X.hc)).cell? (aQ w3.heap.size 3)=some (.slice x.ha x.hn x.hc)/\((w3.alloc (x.oX)).alloc (oQ4 X.pa X.pn X.pc X.sa X.sn X.sc X.wa X.wn X.wc X.ha X.hn X.hc)).cell? ⟨w3.heap.size+1,3,none⟩=some (.slice X.ha X.hn X.hc)):=⟨n1',n2⟩
 have hwN:w.heap.size+1+1<w3.heap.size:=H3.lt;clear a1 a2 z1 n1 n2 n1' aa H3;generalize ((w3.alloc (x.oX)).alloc (oQ4 X.pa X.pn X.pc X.sa X.sn X.sc X.wa X.wn X.wc X.ha X.hn X.hc))=W8 at *;generalize w3.heap.size=N at *;clear w3
 have hF:Hid (∀ W',Kq (N+1+1) (N+1+1) W8 W'->Hv.In ⟨x.ha,x.hn,x.hc,x.hA,x.hL,x.hC,x.hH⟩ W' N/\Hv.In ⟨X.ha,X.hn,X.hc,X.hA,X.hL,X.hC,X.hH⟩ W' (N+1)):=fun W' hk=>by
  have hb:Bw W8 W':=by dsimp only [Bw];rw [z2];exact hk.lo
  have g:=H4.f.gx.below hb;have g':=H4.f.gX.below hb;exact ⟨⟨(hk.lo.cell (p:=(aQ N 3)) (by show N<N+1+1;omega)).trans HB.1,g.h,g.hi⟩,⟨(hk.lo.cell (p:=⟨N+1,3,none⟩) (by show N+1<N+1+1;omega)).trans HB.2,g'.h,g'.hi⟩⟩
 have hnn:=HNN.out;have hll:∀ i,i<x.hn->x.hL i<=1048576/\X.hL i<=1048576:=fun i hi=>⟨HL.1.h.2 i hi,HL.2.h.2 i (by omega)⟩
 have hn20:x.hn<=1048576:=HL.1.h.1;have hxX:x.hn<=X.hn:=by omega
 clear hnn;obtain ⟨d,hdd⟩:∃ d:Nat->Nat,∀ i,i<x.hn->∀ r,Al (x.hH i) (X.hH i) (min (x.hL i) (X.hL i)) r->x.hL i - r=d i:=⟨fun i=>x.hL i - (Al.ex (x.hH i) (X.hH i) (min (x.hL i) (X.hL i))).choose,fun i _ r a=>by rw [a.one (Al.ex (x.hH i) (X.hH i) (min (x.hL i) (X.hL i))).choose_spec]⟩
 have HD:Hid (∀ j,j<x.pn->(d j=0 ↔ (x.hL j<=X.hL j/\∀ i,i<x.hL j->x.hH j i=X.hH j i))):=fun j hj=>by
  obtain ⟨r,a⟩:=Al.ex (x.hH j) (X.hH j) (min (x.hL j) (X.hL j));have h1:=hdd j (by have:=HNN.out;omega) r a;have h2:=a.le;constructor
  ·intro h0
   have h3:x.hL j=r:=by omega
   exact ⟨by omega,fun i hi=>a.eq i (by omega)⟩
  ·rintro ⟨h3,h4⟩
   by_cases h5:r<x.hL j
   ·exact absurd (h4 r h5) (a.ne (by omega))
   ·omega
 refine wpIn_rangeFunc_ownG (F:=Fence.wide) (n:=3) rfl (by omega) (gf:=76) (lb:=#[.pointer (some (aQ N 0)),.pointer (some ⟨N+1,0,none⟩)]) rfl trivial (enters_of func76 (by kernel_rfl) rfl)
  (qph 2 (by omega) N (N+1) (N+1+1) (N+1+1) ⟨x.ha,x.hn,x.hc,x.hA,x.hL,x.hC,x.hH⟩ ⟨X.ha,X.hn,X.hc,X.hA,X.hL,X.hC,X.hH⟩ hxX hn20 hll d hdd W8 (by omega) (by omega) hF.out) (fun h k=>h.trans k) (Kq.b (by omega) (by omega)) (Below.refl _ _) (fun _=>rfl)
  (fun pre W=>(pre=[]/\W.cell? ⟨w.heap.size+1+1,0,none⟩=some (.bool false)/\W.frozen? ⟨w.heap.size+1+1,0,none⟩=false)/\Bw w W)
  (fun c _ W=>(c=.ret/\W.cell? ⟨w.heap.size+1+1,0,none⟩=some (.bool false))/\Bw w W)
  (OwnFrom.and (Own.from (fun s A B row hs hg hr=>⟨hs.1,cell_kept hs.2.1 hg hr,(frozen_kept hs.2.1 hg hr).trans hs.2.2⟩) _) (ownFrom_below (Nat.le_refl _) (by omega)))
  (fun c=>OwnFrom.and (Own.from (fun s A B row hs hg hr=>⟨hs.1,cell_kept hs.2 hg hr⟩) _) (ownFrom_below (Nat.le_refl _) (by omega)))
  ⟨⟨rfl,H4.rc,H4.rf⟩,H4.f.be⟩
  (fun z=>{ tmps:=#[x.v,X.v,.pointer (some (aQ w.heap.size 0)),.pointer (some ⟨w.heap.size+1,0,none⟩),.pointer (some ⟨w.heap.size+1+1,0,none⟩),.agg #[.slice x.pa x.pn x.pc,.slice x.sa x.sn x.sc,.slice x.wa x.wn x.wc,.slice x.ha x.hn x.hc],.bool true,.bool false,.bool false,.agg #[.slice X.pa X.pn X.pc,.slice X.sa X.sn X.sc,.slice X.wa X.wn X.wc,.slice X.ha X.hn X.hc],.bool true,.bool false,.bool false,.bool false,.agg #[.slice x.pa x.pn x.pc,.slice x.sa x.sn x.sc,.slice x.wa x.wn x.wc,.slice x.ha x.hn x.hc],.agg #[.slice X.pa X.pn X.pc,.slice X.sa X.sn X.sc,.slice X.wa X.wn X.wc,.slice X.ha X.hn X.hc],.bool true,.bool false,.bool false,.agg #[.slice x.pa x.pn x.pc,.slice x.sa x.sn x.sc,.slice x.wa x.wn x.wc,.slice x.ha x.hn x.hc],.agg #[.slice X.pa X.pn X.pc,.slice X.sa X.sn X.sc,.slice X.wa X.wn X.wc,.slice X.ha X.hn X.hc],.func (.func 76) #[] #[.pointer (some (aQ N 0)),.pointer (some ⟨N+1,0,none⟩)],.int .i64 (z.1.val:Nat),.int .i64 (z.2:Nat)],defers:=[] }) ?assign ?body ?done ?stop
 case assign=>
  intro l z W K hK
  gi_wp2
  exact hK
 case body=>
  rintro l pre z W ⟨⟨hp,hcr,hfr⟩,hB⟩ _
  gi_wp2
  exact ⟨(KeepsOthers.setCell _ _ _).from _,⟨rfl,World.cell?_setCell_same' _ _ _ (by rw [hcr];rfl)⟩,hB.setCell (p:=⟨w.heap.size+1+1,0,none⟩) (by show w.heap.size<=w.heap.size+1+1;omega) _⟩
 case done=>
  rintro D ys W hD hys ⟨⟨hp,hcr,hfr⟩,hB⟩ hK;have hz:Hid (x.y.Fo X.y):=HF4.out fun j hj=>(HD.out j hj).1 (qq3 x.hn (Nat.le_refl _) (hys.symm.trans hp) j (by have:=HNN.out;omega))
  gi_wp2
  have hK':=(KeepsOthers.setCell W ⟨w.heap.size+1+1,0,none⟩ (.bool true)).same D _ hK rfl;refine ⟨by simp,.inl ⟨_,_,rfl,run_takeDeferred hK',?_⟩⟩;have hc5:=cell_kept (World.cell?_setCell_same' W ⟨w.heap.size+1+1,0,none⟩ (.bool true) (by rw [hcr];rfl)) (grownBy_putObj' _ D (.deferred none)) (fun r e=>by cases e;exact ⟨_,hK',rfl⟩);refine ⟨.bool true,?_,qc2.yes hz.out,(hB.setCell (p:=⟨w.heap.size+1+1,0,none⟩) (by show w.heap.size<=w.heap.size+1+1;omega) _).trans (belowK_b (w:=w) (Nat.le_refl _) _ D _ _ (by omega) hK' rfl rfl)⟩;simp [results,f10,go_sem,hc5]
 case stop=>
  rintro D c pre W hD ⟨k,hk,hdk,-⟩ ⟨⟨rfl,hcr⟩,hB⟩ hK
  have hz:Hid (¬ x.y.Fo X.y):=fun h=>by
   have h1:=(HD.out k (by have h2:=HNN.out;have h3:k<x.hn:=hk;omega)).2 (HF3.out h k (by have h2:=HNN.out;have h3:k<x.hn:=hk;omega));omega
  gi_wp2
  refine ⟨by simp,.inl ⟨_,_,rfl,run_takeDeferred hK,?_⟩⟩;have hc5:=cell_kept hcr (grownBy_putObj' _ D (.deferred none)) (fun r e=>by cases e;exact ⟨_,hK,rfl⟩);refine ⟨.bool false,?_,qc2.no hz.out,hB.trans (belowK_b (w:=w) (Nat.le_refl _) W D _ _ (by omega) hK rfl rfl)⟩;simp [results,f10,go_sem,hc5]
