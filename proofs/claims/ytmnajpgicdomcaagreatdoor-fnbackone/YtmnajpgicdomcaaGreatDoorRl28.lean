import Derived.Test.YtmnajpgicdomcaaGreatDoorRl27
namespace Go.Proofs.YtmnajpgicdomcaaGreatDoor
set_option maxRecDepth 100000
set_option maxHeartbeats 8000000
open Go.RowKit Go.Deep
structure DW (w wr:World) (W0 c:Nat) (a0:Option Addr) (len cap N M B T:Nat) (x:SysIn):Prop where
 cu:Cur wr W0 c a0 len cap
 be:Below w.heap.size w wr
 sx:SysX wr B T x
 b2:Bx wr N (.slice none 0 0) (.slice none 0 0) (.slice none 0 0) (.slice none 0 0)
 b6:Bx wr M (.slice x.pa x.pn x.pc) (.slice x.sa x.sn x.sc) (.slice x.wa x.wn x.wc) (.slice x.ha x.hn x.hc)
 sz:w.heap.size<=N/\N<c/\c<B/\c<M/\T<=M
theorem DW.draw {w wr w':World} {W0 c len cap N M B T:Nat} {a0:Option Addr} {x:SysIn} (h:DW w wr W0 c a0 len cap N M B T x) (hc:Cur w' W0 c a0 len cap) (hg:wr.grownBy w' (some c)):DW w w' W0 c a0 len cap N M B T x:=
 ⟨hc,Below.grown h.be hg (by have:=h.be.size;exact this) (fun k hk=>by cases hk;have:=h.sz;omega),h.sx.keep hg.size fun b hb _ hl=>hg.block b hl (by have:=h.sz;simp;omega),h.b2.grown hg (by have:=h.sz;simp;omega),h.b6.grown hg (by have:=h.sz;simp;omega),h.sz⟩
theorem DW.set4 {w wr:World} {W0 c len cap N M B T:Nat} {a0:Option Addr} {x:SysIn} (h:DW w wr W0 c a0 len cap N M B T x) (u0 u1 u2 u3:Value):SysX ((((wr.setCell ⟨N,0,none⟩ u0).setCell ⟨N,1,none⟩ u1).setCell ⟨N,2,none⟩ u2).setCell ⟨N,3,none⟩ u3) B T x:=
 h.sx.keep (by simp) fun b hb _ _=>by
  have:=h.sz;rw [zO _ _ _ _ (by show b≠N;omega),zO _ _ _ _ (by show b≠N;omega),zO _ _ _ _ (by show b≠N;omega),zO _ _ _ _ (by show b≠N;omega)]
theorem DW.alloc {w wr:World} {W0 c len cap N M B T:Nat} {a0:Option Addr} {x:SysIn} (h:DW w wr W0 c a0 len cap N M B T x) (o:Obj):DW w (wr.alloc o) W0 c a0 len cap N M B T x:=h.draw (h.cu.alloc o) (World.grownBy_alloc _ _ _)
def DrwA (w:World) (e:Ending) (w':World):Prop:=∃ (x:SysIn) (a b:Int) (B T:Nat),e=.returned (.tuple #[x.v,.int .i64 a,.int .i64 b])/\x.y.Sm/\SysX w' B T x/\w.heap.size<=B/\T<=w'.heap.size/\Below w.heap.size w w'/\(-1<=a/\a<=16)/\(-1<=b/\b<=1000)
theorem qed (W0 len cap:Nat) (a0:Option Addr) (w:World) (hB:qbf w W0 a0 len) (hW:W0<=w.heap.size) (ln:len<=1048576):
  Calls Tryz.prog 21 #[.slice a0 len cap] w (DrwA w):=by
 have C0:Hid (qbf (w.alloc (zQ3)) W0 a0 len/\W0<=(w.alloc (zQ3)).heap.size/\Below w.heap.size w (w.alloc (zQ3))/\Bx (w.alloc (zQ3)) w.heap.size (.slice none 0 0) (.slice none 0 0) (.slice none 0 0) (.slice none 0 0)/\(w.alloc (zQ3)).heap.size=w.heap.size+1):=⟨hB.kept (fun k hk=>(zQ w (zQ3)).block k (by omega)),by simp;omega,zQ _ _,Bx.new w _ _ _ _ _,by simp⟩
 clear hB
 go_enter Tryz.func21,Tryz.ntmps21
 go_wp2_with fail
 generalize w.alloc (zQ3)=W2 at *;refine (qq9 W0 len cap a0 W2 C0.1 C0.2.1 ln).mono ?_;rintro e w1 ⟨rfl,hc1,hg1⟩;have C1:Hid (Cur w1 W0 W2.heap.size a0 len cap/\Below w.heap.size w w1/\Bx w1 w.heap.size (.slice none 0 0) (.slice none 0 0) (.slice none 0 0) (.slice none 0 0)/\W2.heap.size=w.heap.size+1/\W2.heap.size<w1.heap.size):=⟨hc1,C0.2.2.1.trans ((qde hg1).mono C0.2.2.1.size),C0.2.2.2.1.below (qde hg1),C0.2.2.2.2,hc1.lt⟩
 clear hc1 hg1 C0;generalize W2.heap.size=c at *;go_wp2_with fail
 refine (qpu W0 c len cap a0 w1 C1.1).mono ?_;rintro e w2 ⟨x,B,T,rfl,hm,hX,hc2,hg2,hcB,hT⟩
 have DA:Hid (DW w (w2.alloc (oQ4 x.pa x.pn x.pc x.sa x.sn x.sc x.wa x.wn x.wc x.ha x.hn x.hc)) W0 c a0 len cap w.heap.size w2.heap.size B T x):=by
  have hs:=hg2.size;have h1:=C1.2.2.2.1;have h2:=C1.2.2.2.2;refine ⟨hc2.alloc _,(Below.grown C1.2.1 hg2 C1.2.1.size (fun k hk=>by cases hk;omega)).trans ((zQ _ _).mono (by have:=C1.2.1.size;omega)),hX.keep (by simp) fun b _ _ hl=>(zQ w2 _).block b hl,(C1.2.2.1.grown hg2 (by simp;omega)).below (zQ _ _),Bx.new _ _ _ _ _ _,Nat.le_refl _,by omega,hcB,by omega,hT⟩
 have HM:Hid x.y.Sm:=hm
 have hn16:(x.hn:Int)<=16:=by
  have h:x.hn<=16:=hm.n.2.2.2;omega
 have HL:Hid (∀ i,i<x.hn->x.hL i<=1000):=fun i hi=>hm.h i hi;clear hX hc2 hg2 hcB hT C1 hm;obtain ⟨⟨z0,z1,z2,z3⟩,-⟩:=DA.out.b6;go_wp2_with fail
 generalize w2.alloc (oQ4 x.pa x.pn x.pc x.sa x.sn x.sc x.wa x.wn x.wc x.ha x.hn x.hc)=wA at *;generalize w2.heap.size=M at *;clear z0 z1 z2 z3;refine (qh4 (x.hn:Int) 1 wA).mono ?_;rintro e w' ⟨m,rfl,⟨m1,m2,m3⟩,rfl⟩;go_wp2_with fail
 refine (zY W0 c len cap a0 m _ DA.out.cu (by omega) (by omega)).mono ?_;rintro e w3 ⟨p,rfl,⟨p0,p1⟩,hc3,hg3⟩;have D3:Hid (DW w w3 W0 c a0 len cap w.heap.size M B T x):=DA.out.draw hc3 hg3;clear hc3 hg3 DA;obtain ⟨⟨z0,z1,z2,z3⟩,-⟩:=D3.out.b6;by_cases hp:p<(x.hn:Int)
 ·obtain ⟨P,rfl⟩:∃ P:Nat,p=P:=⟨p.toNat,by omega⟩
  have hP:P<x.hn:=by omega
  obtain ⟨b,off,ea,cb⟩:=D3.out.sx.self.h.at hP;have cb:w3.cell? ⟨b,off+P,none⟩=some (.slice (x.hA P) (x.hL P) (x.hC P)):=cb;have hk':(x.hL P:Int)<=1000:=by have:=HL.out P hP;omega
  rw [ea] at z3;clear ea;go_wp2_with fail
  clear z0 z1 z2 z3 cb;refine (qlk W0 c len cap a0 ((x.hL P:Int)+1) w3 D3.out.cu (by omega) (by omega)).mono ?_;rintro e w4 ⟨k,rfl,⟨k0,k1⟩,hc4,hg4⟩;have D4:Hid (DW w w4 W0 c a0 len cap w.heap.size M B T x):=D3.out.draw hc4 hg4;clear hc4 hg4 D3 hP HL;generalize x.hL P=lP at *;have hPP:-1<=(P:Int)/\(P:Int)<=16:=by omega
  clear hp p0 p1 m1 m2 m3;go_wp2_with fail
  refine (zY W0 c len cap a0 15 w4 D4.out.cu (by omega) (by omega)).mono ?_;rintro e w5 ⟨r,rfl,⟨r0,r1⟩,hc5,hg5⟩;have D5:Hid (DW w w5 W0 c a0 len cap w.heap.size M B T x):=D4.out.draw hc5 hg5;clear hc5 hg5 D4;by_cases e0:r=0
  ·subst e0
   go_wp2_with fail
   have cN5:c<w5.heap.size:=D5.out.cu.lt;refine (qco W0 c len cap w5.heap.size 2 2 a0 pickP _ (D5.out.cu.alloc _) (by omega) (by omega) (by simp) (by omega) (qop w5)).mono ?_;rintro e w6 ⟨i,hi,rfl,hc6,hg6⟩;have D6:Hid (DW w w6 W0 c a0 len cap w.heap.size M B T x):=(D5.out.alloc _).draw hc6 hg6;clear hc6 hg6 D5 cN5;have hv:=qoq i;generalize pickP i=v at *;obtain ⟨⟨x0,x1,x2,x3⟩,xf⟩:=D6.out.b2;obtain ⟨⟨z0,z1,z2,z3⟩,-⟩:=D6.out.b6;go_wp2;refine bodyPost_ret (v:=.tuple #[x.v,.int .i64 v,.int .i64 k]) (by simp [results,Tryz.results21,go_sem,x0,x1,x2,x3]) rfl ⟨x,v,k,B,T,rfl,HM.out,?_,?_,?_,?_,by omega,by omega⟩
   ·exact D6.out.set4 _ _ _ _
   ·have:=D6.out.sz
    omega
   ·have:=D6.out.sz
    have:=D6.out.b6.lt;simp;omega
   ·exact (((D6.out.be.setCell (Nat.le_refl _) _).setCell (Nat.le_refl _) _).setCell (Nat.le_refl _) _).setCell (Nat.le_refl _) _
  ·by_cases e1:r=1
   ·subst e1
    go_wp2_with fail
    have cN5:c<w5.heap.size:=D5.out.cu.lt;refine (qco W0 c len cap w5.heap.size 2 2 a0 pickK _ (D5.out.cu.alloc _) (by omega) (by omega) (by simp) (by omega) (qon w5)).mono ?_;rintro e w6 ⟨i,hi,rfl,hc6,hg6⟩;have D6:Hid (DW w w6 W0 c a0 len cap w.heap.size M B T x):=(D5.out.alloc _).draw hc6 hg6;clear hc6 hg6 D5 cN5;have hv:=qoo i;generalize pickK i=v at *;obtain ⟨⟨x0,x1,x2,x3⟩,xf⟩:=D6.out.b2;obtain ⟨⟨z0,z1,z2,z3⟩,-⟩:=D6.out.b6;go_wp2;refine bodyPost_ret (v:=.tuple #[x.v,.int .i64 (P:Int),.int .i64 v]) (by simp [results,Tryz.results21,go_sem,x0,x1,x2,x3]) rfl ⟨x,(P:Int),v,B,T,rfl,HM.out,?_,?_,?_,?_,by omega,by omega⟩
    ·exact D6.out.set4 _ _ _ _
    ·have:=D6.out.sz
     omega
    ·have:=D6.out.sz
     have:=D6.out.b6.lt;simp;omega
    ·exact (((D6.out.be.setCell (Nat.le_refl _) _).setCell (Nat.le_refl _) _).setCell (Nat.le_refl _) _).setCell (Nat.le_refl _) _
   ·have e0':(r == 0)=false:=by simpa using e0
    have e1':(r == 1)=false:=by simpa using e1
    obtain ⟨⟨x0,x1,x2,x3⟩,xf⟩:=D5.out.b2;obtain ⟨⟨z0,z1,z2,z3⟩,-⟩:=D5.out.b6;go_wp2;refine bodyPost_ret (v:=.tuple #[x.v,.int .i64 (P:Int),.int .i64 k]) (by simp [results,Tryz.results21,go_sem,x0,x1,x2,x3]) rfl ⟨x,(P:Int),k,B,T,rfl,HM.out,?_,?_,?_,?_,by omega,by omega⟩
    ·exact D5.out.set4 _ _ _ _
    ·have:=D5.out.sz
     omega
    ·have:=D5.out.sz
     have:=D5.out.b6.lt;simp;omega
    ·exact (((D5.out.be.setCell (Nat.le_refl _) _).setCell (Nat.le_refl _) _).setCell (Nat.le_refl _) _).setCell (Nat.le_refl _) _
 ·clear z0 z1 z2 z3
  obtain ⟨⟨z0,z1,z2,z3⟩,-⟩:=D3.out.b6;have hpn:¬ p<(x.hn:Int):=hp;go_wp2_with fail
  clear z0 z1 z2 z3;refine (zY W0 c len cap a0 15 w3 D3.out.cu (by omega) (by omega)).mono ?_;rintro e w5 ⟨r,rfl,⟨r0,r1⟩,hc5,hg5⟩;have D5:Hid (DW w w5 W0 c a0 len cap w.heap.size M B T x):=D3.out.draw hc5 hg5;clear hc5 hg5 D3;by_cases e0:r=0
  ·subst e0
   go_wp2_with fail
   have cN5:c<w5.heap.size:=D5.out.cu.lt;refine (qco W0 c len cap w5.heap.size 2 2 a0 pickP _ (D5.out.cu.alloc _) (by omega) (by omega) (by simp) (by omega) (qop w5)).mono ?_;rintro e w6 ⟨i,hi,rfl,hc6,hg6⟩;have D6:Hid (DW w w6 W0 c a0 len cap w.heap.size M B T x):=(D5.out.alloc _).draw hc6 hg6;clear hc6 hg6 D5 cN5;have hv:=qoq i;generalize pickP i=v at *;obtain ⟨⟨x0,x1,x2,x3⟩,xf⟩:=D6.out.b2;obtain ⟨⟨z0,z1,z2,z3⟩,-⟩:=D6.out.b6;go_wp2;refine bodyPost_ret (v:=.tuple #[x.v,.int .i64 v,.int .i64 0]) (by simp [results,Tryz.results21,go_sem,x0,x1,x2,x3]) rfl ⟨x,v,0,B,T,rfl,HM.out,?_,?_,?_,?_,by omega,by omega⟩
   ·exact D6.out.set4 _ _ _ _
   ·have:=D6.out.sz
    omega
   ·have:=D6.out.sz
    have:=D6.out.b6.lt;simp;omega
   ·exact (((D6.out.be.setCell (Nat.le_refl _) _).setCell (Nat.le_refl _) _).setCell (Nat.le_refl _) _).setCell (Nat.le_refl _) _
  ·by_cases e1:r=1
   ·subst e1
    go_wp2_with fail
    have cN5:c<w5.heap.size:=D5.out.cu.lt;refine (qco W0 c len cap w5.heap.size 2 2 a0 pickK _ (D5.out.cu.alloc _) (by omega) (by omega) (by simp) (by omega) (qon w5)).mono ?_;rintro e w6 ⟨i,hi,rfl,hc6,hg6⟩;have D6:Hid (DW w w6 W0 c a0 len cap w.heap.size M B T x):=(D5.out.alloc _).draw hc6 hg6;clear hc6 hg6 D5 cN5;have hv:=qoo i;generalize pickK i=v at *;obtain ⟨⟨x0,x1,x2,x3⟩,xf⟩:=D6.out.b2;obtain ⟨⟨z0,z1,z2,z3⟩,-⟩:=D6.out.b6;go_wp2;refine bodyPost_ret (v:=.tuple #[x.v,.int .i64 p,.int .i64 v]) (by simp [results,Tryz.results21,go_sem,x0,x1,x2,x3]) rfl ⟨x,p,v,B,T,rfl,HM.out,?_,?_,?_,?_,by omega,by omega⟩
    ·exact D6.out.set4 _ _ _ _
    ·have:=D6.out.sz
     omega
    ·have:=D6.out.sz
     have:=D6.out.b6.lt;simp;omega
    ·exact (((D6.out.be.setCell (Nat.le_refl _) _).setCell (Nat.le_refl _) _).setCell (Nat.le_refl _) _).setCell (Nat.le_refl _) _
   ·have e0':(r == 0)=false:=by simpa using e0
    have e1':(r == 1)=false:=by simpa using e1
    obtain ⟨⟨x0,x1,x2,x3⟩,xf⟩:=D5.out.b2;obtain ⟨⟨z0,z1,z2,z3⟩,-⟩:=D5.out.b6;go_wp2;refine bodyPost_ret (v:=.tuple #[x.v,.int .i64 p,.int .i64 0]) (by simp [results,Tryz.results21,go_sem,x0,x1,x2,x3]) rfl ⟨x,p,0,B,T,rfl,HM.out,?_,?_,?_,?_,by omega,by omega⟩
    ·exact D5.out.set4 _ _ _ _
    ·have:=D5.out.sz
     omega
    ·have:=D5.out.sz
     have:=D5.out.b6.lt;simp;omega
    ·exact (((D5.out.be.setCell (Nat.le_refl _) _).setCell (Nat.le_refl _) _).setCell (Nat.le_refl _) _).setCell (Nat.le_refl _) _
theorem qkt (W0 len cap:Nat) (a0:Option Addr) (w:World) (hB:qbf w W0 a0 len) (hW:W0<=w.heap.size) (ln:len<=1048576):
  Calls Tryz.prog 18 #[.slice a0 len cap] w (DrwA w):=by
 have C0:Hid (qbf (w.alloc (zQ3)) W0 a0 len/\W0<=(w.alloc (zQ3)).heap.size/\Below w.heap.size w (w.alloc (zQ3))/\Bx (w.alloc (zQ3)) w.heap.size (.slice none 0 0) (.slice none 0 0) (.slice none 0 0) (.slice none 0 0)/\(w.alloc (zQ3)).heap.size=w.heap.size+1):=⟨hB.kept (fun k hk=>(zQ w (zQ3)).block k (by omega)),by simp;omega,zQ _ _,Bx.new w _ _ _ _ _,by simp⟩
 clear hB
 go_enter Tryz.func18,Tryz.ntmps18
 go_wp2_with fail
 generalize w.alloc (zQ3)=W2 at *;refine (qed W0 len cap a0 W2 C0.1 C0.2.1 ln).mono ?_;rintro e w2 ⟨x,a,b,B,T,rfl,hm,hX,hBl,hT,hb,ha1,hb1⟩;have HM:Hid x.y.Sm:=hm;have hab:(-1<=a/\a<=16)/\(-1<=b/\b<=1000):=⟨ha1,hb1⟩
 have F:Hid (SysX (w2.alloc (oQ4 x.pa x.pn x.pc x.sa x.sn x.sc x.wa x.wn x.wc x.ha x.hn x.hc)) B T x/\Bx (w2.alloc (oQ4 x.pa x.pn x.pc x.sa x.sn x.sc x.wa x.wn x.wc x.ha x.hn x.hc)) w.heap.size (.slice none 0 0) (.slice none 0 0) (.slice none 0 0) (.slice none 0 0)/\Bx (w2.alloc (oQ4 x.pa x.pn x.pc x.sa x.sn x.sc x.wa x.wn x.wc x.ha x.hn x.hc)) w2.heap.size (.slice x.pa x.pn x.pc) (.slice x.sa x.sn x.sc) (.slice x.wa x.wn x.wc) (.slice x.ha x.hn x.hc)/\Below w.heap.size w (w2.alloc (oQ4 x.pa x.pn x.pc x.sa x.sn x.sc x.wa x.wn x.wc x.ha x.hn x.hc))/\w.heap.size<B/\T<=w2.heap.size):=by
  have h1:=C0.2.2.2.2;have h2:=hb.size;exact ⟨hX.keep (by simp) fun b _ _ hl=>(zQ w2 _).block b hl,(C0.2.2.2.1.below hb).below (zQ _ _),Bx.new _ _ _ _ _ _,(C0.2.2.1.trans (hb.mono (by omega))).trans ((zQ _ _).mono (by omega)),by omega,hT⟩
 clear hX hBl hT hb hm ha1 hb1 C0;go_upto_region 2 with fail
 generalize w2.alloc (oQ4 x.pa x.pn x.pc x.sa x.sn x.sc x.wa x.wn x.wc x.ha x.hn x.hc)=wA at *;generalize w2.heap.size=M at *;obtain ⟨⟨x0,x1,x2,x3⟩,xf⟩:=F.2.1;obtain ⟨⟨z0,z1,z2,z3⟩,-⟩:=F.2.2.1;go_wp2;refine bodyPost_ret (v:=.tuple #[x.v,.int .i64 a,.int .i64 b]) (by simp [results,Tryz.results18,go_sem,x0,x1,x2,x3]) rfl ⟨x,a,b,B,T,rfl,HM.out,?_,?_,?_,?_,hab.1,hab.2⟩
 ·exact F.1.keep (by simp) fun b hb _ _=>by
   have:=F.2.2.2.2.1;rw [zO _ _ _ _ (by show b≠w.heap.size;omega),zO _ _ _ _ (by show b≠w.heap.size;omega),zO _ _ _ _ (by show b≠w.heap.size;omega),zO _ _ _ _ (by show b≠w.heap.size;omega)]
 ·exact Nat.le_of_lt F.2.2.2.2.1
 ·have:=F.2.2.2.2.2
  have:=F.2.2.1.lt;simp;omega
 ·exact (((F.2.2.2.1.setCell (Nat.le_refl _) _).setCell (Nat.le_refl _) _).setCell (Nat.le_refl _) _).setCell (Nat.le_refl _) _
theorem qim (W0 len cap:Nat) (a0:Option Addr) (w:World) (hB:qbf w W0 a0 len) (hW:W0<=w.heap.size) (ln:len<=1048576):
  Calls Tryz.prog 7 #[.slice a0 len cap] w (DrwA w):=by
 have C0:Hid (qbf (w.alloc (zQ3)) W0 a0 len/\W0<=(w.alloc (zQ3)).heap.size/\Below w.heap.size w (w.alloc (zQ3))/\Bx (w.alloc (zQ3)) w.heap.size (.slice none 0 0) (.slice none 0 0) (.slice none 0 0) (.slice none 0 0)/\(w.alloc (zQ3)).heap.size=w.heap.size+1):=⟨hB.kept (fun k hk=>(zQ w (zQ3)).block k (by omega)),by simp;omega,zQ _ _,Bx.new w _ _ _ _ _,by simp⟩
 clear hB
 go_enter Tryz.func7,Tryz.ntmps7
 go_wp2_with fail
 generalize w.alloc (zQ3)=W2 at *;refine (qed W0 len cap a0 W2 C0.1 C0.2.1 ln).mono ?_;rintro e w2 ⟨x,a,b,B,T,rfl,hm,hX,hBl,hT,hb,ha1,hb1⟩;have HM:Hid x.y.Sm:=hm;have hab:(-1<=a/\a<=16)/\(-1<=b/\b<=1000):=⟨ha1,hb1⟩
 have F:Hid (SysX (w2.alloc (oQ4 x.pa x.pn x.pc x.sa x.sn x.sc x.wa x.wn x.wc x.ha x.hn x.hc)) B T x/\Bx (w2.alloc (oQ4 x.pa x.pn x.pc x.sa x.sn x.sc x.wa x.wn x.wc x.ha x.hn x.hc)) w.heap.size (.slice none 0 0) (.slice none 0 0) (.slice none 0 0) (.slice none 0 0)/\Bx (w2.alloc (oQ4 x.pa x.pn x.pc x.sa x.sn x.sc x.wa x.wn x.wc x.ha x.hn x.hc)) w2.heap.size (.slice x.pa x.pn x.pc) (.slice x.sa x.sn x.sc) (.slice x.wa x.wn x.wc) (.slice x.ha x.hn x.hc)/\Below w.heap.size w (w2.alloc (oQ4 x.pa x.pn x.pc x.sa x.sn x.sc x.wa x.wn x.wc x.ha x.hn x.hc))/\w.heap.size<B/\T<=w2.heap.size):=by
  have h1:=C0.2.2.2.2;have h2:=hb.size;exact ⟨hX.keep (by simp) fun b _ _ hl=>(zQ w2 _).block b hl,(C0.2.2.2.1.below hb).below (zQ _ _),Bx.new _ _ _ _ _ _,(C0.2.2.1.trans (hb.mono (by omega))).trans ((zQ _ _).mono (by omega)),by omega,hT⟩
 clear hX hBl hT hb hm ha1 hb1 C0;go_upto_region 2 with fail
 generalize w2.alloc (oQ4 x.pa x.pn x.pc x.sa x.sn x.sc x.wa x.wn x.wc x.ha x.hn x.hc)=wA at *;generalize w2.heap.size=M at *;obtain ⟨⟨x0,x1,x2,x3⟩,xf⟩:=F.2.1;obtain ⟨⟨z0,z1,z2,z3⟩,-⟩:=F.2.2.1;go_wp2;refine bodyPost_ret (v:=.tuple #[x.v,.int .i64 a,.int .i64 b]) (by simp [results,Tryz.results7,go_sem,x0,x1,x2,x3]) rfl ⟨x,a,b,B,T,rfl,HM.out,?_,?_,?_,?_,hab.1,hab.2⟩
 ·exact F.1.keep (by simp) fun b hb _ _=>by
   have:=F.2.2.2.2.1;rw [zO _ _ _ _ (by show b≠w.heap.size;omega),zO _ _ _ _ (by show b≠w.heap.size;omega),zO _ _ _ _ (by show b≠w.heap.size;omega),zO _ _ _ _ (by show b≠w.heap.size;omega)]
 ·exact Nat.le_of_lt F.2.2.2.2.1
 ·have:=F.2.2.2.2.2
  have:=F.2.2.1.lt;simp;omega
 ·exact (((F.2.2.2.1.setCell (Nat.le_refl _) _).setCell (Nat.le_refl _) _).setCell (Nat.le_refl _) _).setCell (Nat.le_refl _) _
def DrwB (w:World) (e:Ending) (w':World):Prop:=∃ (x:SysIn) (a:Int) (B T:Nat),e=.returned (.tuple #[x.v,.int .i64 a])/\x.y.Sm/\SysX w' B T x/\w.heap.size<=B/\T<=w'.heap.size/\Below w.heap.size w w'/\(-1<=a/\a<=16)
theorem qhn (W0 len cap:Nat) (a0:Option Addr) (w:World) (hB:qbf w W0 a0 len) (hW:W0<=w.heap.size) (ln:len<=1048576):
  Calls Tryz.prog 12 #[.slice a0 len cap] w (DrwB w):=by
 have C0:Hid (qbf (w.alloc (zQ3)) W0 a0 len/\W0<=(w.alloc (zQ3)).heap.size/\Below w.heap.size w (w.alloc (zQ3))/\Bx (w.alloc (zQ3)) w.heap.size (.slice none 0 0) (.slice none 0 0) (.slice none 0 0) (.slice none 0 0)/\(w.alloc (zQ3)).heap.size=w.heap.size+1):=⟨hB.kept (fun k hk=>(zQ w (zQ3)).block k (by omega)),by simp;omega,zQ _ _,Bx.new w _ _ _ _ _,by simp⟩
 clear hB
 go_enter Tryz.func12,Tryz.ntmps12
 go_wp2_with fail
 generalize w.alloc (zQ3)=W2 at *;refine (qed W0 len cap a0 W2 C0.1 C0.2.1 ln).mono ?_;rintro e w2 ⟨x,a,b,B,T,rfl,hm,hX,hBl,hT,hb,ha1,hb1⟩;have HM:Hid x.y.Sm:=hm;have hab:(-1<=a/\a<=16)/\(-1<=b/\b<=1000):=⟨ha1,hb1⟩
 have F:Hid (SysX (w2.alloc (oQ4 x.pa x.pn x.pc x.sa x.sn x.sc x.wa x.wn x.wc x.ha x.hn x.hc)) B T x/\Bx (w2.alloc (oQ4 x.pa x.pn x.pc x.sa x.sn x.sc x.wa x.wn x.wc x.ha x.hn x.hc)) w.heap.size (.slice none 0 0) (.slice none 0 0) (.slice none 0 0) (.slice none 0 0)/\Bx (w2.alloc (oQ4 x.pa x.pn x.pc x.sa x.sn x.sc x.wa x.wn x.wc x.ha x.hn x.hc)) w2.heap.size (.slice x.pa x.pn x.pc) (.slice x.sa x.sn x.sc) (.slice x.wa x.wn x.wc) (.slice x.ha x.hn x.hc)/\Below w.heap.size w (w2.alloc (oQ4 x.pa x.pn x.pc x.sa x.sn x.sc x.wa x.wn x.wc x.ha x.hn x.hc))/\w.heap.size<B/\T<=w2.heap.size):=by
  have h1:=C0.2.2.2.2;have h2:=hb.size;exact ⟨hX.keep (by simp) fun b _ _ hl=>(zQ w2 _).block b hl,(C0.2.2.2.1.below hb).below (zQ _ _),Bx.new _ _ _ _ _ _,(C0.2.2.1.trans (hb.mono (by omega))).trans ((zQ _ _).mono (by omega)),by omega,hT⟩
 clear hX hBl hT hb hm ha1 hb1 C0;go_upto_region 2 with fail
 generalize w2.alloc (oQ4 x.pa x.pn x.pc x.sa x.sn x.sc x.wa x.wn x.wc x.ha x.hn x.hc)=wA at *;generalize w2.heap.size=M at *;obtain ⟨⟨x0,x1,x2,x3⟩,xf⟩:=F.2.1;obtain ⟨⟨z0,z1,z2,z3⟩,-⟩:=F.2.2.1;go_wp2;refine bodyPost_ret (v:=.tuple #[x.v,.int .i64 a]) (by simp [results,Tryz.results12,go_sem,x0,x1,x2,x3]) rfl ⟨x,a,B,T,rfl,HM.out,?_,?_,?_,?_,hab.1⟩
 ·exact F.1.keep (by simp) fun b hb _ _=>by
   have:=F.2.2.2.2.1;rw [zO _ _ _ _ (by show b≠w.heap.size;omega),zO _ _ _ _ (by show b≠w.heap.size;omega),zO _ _ _ _ (by show b≠w.heap.size;omega),zO _ _ _ _ (by show b≠w.heap.size;omega)]
 ·exact Nat.le_of_lt F.2.2.2.2.1
 ·have:=F.2.2.2.2.2
  have:=F.2.2.1.lt;simp;omega
 ·exact (((F.2.2.2.1.setCell (Nat.le_refl _) _).setCell (Nat.le_refl _) _).setCell (Nat.le_refl _) _).setCell (Nat.le_refl _) _
structure WJ (w wr:World) (X:Nat) (x:SysIn):Prop where
 g:SysG wr x
 bx:BoxC wr X (.slice x.pa x.pn x.pc) (.slice x.sa x.sn x.sc) (.slice x.wa x.wn x.wc) (.slice x.ha x.hn x.hc)
 be:Below w.heap.size w wr
theorem WJ.below {w wr w':World} {X:Nat} {x:SysIn} (h:WJ w wr X x) (hb:Below wr.heap.size wr w'):WJ w w' X x:=⟨h.g.below hb,h.bx.below hb,h.be.trans (hb.mono h.be.size)⟩
theorem WJ.lt {w wr:World} {X:Nat} {x:SysIn} (h:WJ w wr X x):X<wr.heap.size:=zJ wr _ h.bx.1
theorem qac.inJ {z:Bool} {w:World} {B:Nat} {y:Sy} {v:Value} (o:qac z w B y v):∃ x:SysIn,v=x.v/\x.y=y/\SysG w x/\(∀ i,i<x.hn->x.hL i<=x.hC i)/\x.Nn false:=by
 obtain ⟨x,e1,e2,h⟩:=o.sysT.x;exact ⟨x,e1,e2,h.self,h.cap,h.nn⟩
