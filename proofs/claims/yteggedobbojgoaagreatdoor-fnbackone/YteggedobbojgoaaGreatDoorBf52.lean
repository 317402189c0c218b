import Derived.Test.YteggedobbojgoaaGreatDoorBf53
import Derived.Test.YteggedobbojgoaaGreatDoorBf47
import Derived.Test.YteggedobbojgoaaGreatDoorBf51
import Derived.Test.YteggedobbojgoaaGreatDoorCards
import Derived.SevenTiedAt
namespace Go.Proofs.YteggedobbojgoaaGreatDoor
set_option maxRecDepth 100000
set_option maxHeartbeats 8000000
open Go.RowKit Go.Deep
structure DW (w wr:World) (W0 c:Nat) (a0:Option Addr) (len cap N M B T:Nat) (x:SysIn):Prop where
 cu:Cur wr W0 c a0 len cap
 be:Below w.heap.size w wr
 sx:SysX wr B T x
 b2:Bx wr N (.slice none 0 0) (.slice none 0 0) (.slice none 0 0) (.slice none 0 0)
 b6:Bx wr M (.slice x.pa x.pn x.pc) (.slice x.sa x.sn x.sc) (.slice x.wa x.wn x.wc) (.slice x.ha x.hn x.hc)
 sz:w.heap.size<=N/\N<c/\c<B/\c<M/\T<=M
theorem DW.draw {w wr w':World} {W0 c len cap N M B T:Nat} {a0:Option Addr} {x:SysIn} (h:DW w wr W0 c a0 len cap N M B T x) (hc:Cur w' W0 c a0 len cap) (hg:wr.grownBy w' (some c)):DW w w' W0 c a0 len cap N M B T x:=
 ⟨hc,Below.grown h.be hg (by have:=h.be.size;exact this) (fun k hk=>by cases hk;have:=h.sz;omega),h.sx.keep hg.size fun b hb _ hl=>hg.block b hl (by have:=h.sz;simp;omega),h.b2.grown hg (by have:=h.sz;simp;omega),h.b6.grown hg (by have:=h.sz;simp;omega),h.sz⟩
theorem DW.set4 {w wr:World} {W0 c len cap N M B T:Nat} {a0:Option Addr} {x:SysIn} (h:DW w wr W0 c a0 len cap N M B T x) (u0 u1 u2 u3:Value):SysX ((((wr.setCell ⟨N,0,none⟩ u0).setCell ⟨N,1,none⟩ u1).setCell ⟨N,2,none⟩ u2).setCell ⟨N,3,none⟩ u3) B T x:=
 h.sx.keep (by simp) fun b hb _ _=>by
  have:=h.sz
  rw [zO _ _ _ _ (by show b≠N;omega),zO _ _ _ _ (by show b≠N;omega),zO _ _ _ _ (by show b≠N;omega),zO _ _ _ _ (by show b≠N;omega)]
theorem DW.alloc {w wr:World} {W0 c len cap N M B T:Nat} {a0:Option Addr} {x:SysIn} (h:DW w wr W0 c a0 len cap N M B T x) (o:Obj):DW w (wr.alloc o) W0 c a0 len cap N M B T x:=h.draw (h.cu.alloc o) (World.grownBy_alloc _ _ _)
def DrwA (w:World) (e:Ending) (w':World):Prop:=∃ (x:SysIn) (a b:Int) (B T:Nat),e=.returned (.tuple #[x.v,.int .i64 a,.int .i64 b])/\x.y.Sm/\SysX w' B T x/\w.heap.size<=B/\T<=w'.heap.size/\Below w.heap.size w w'/\(-1<=a/\a<=16)/\(-1<=b/\b<=1000)
theorem qk7 (W0 len cap:Nat) (a0:Option Addr) (w:World) (hB:qb1 w W0 a0 len) (hW:W0<=w.heap.size) (ln:len<=1048576):
  Calls Tryz.prog 23 #[.slice a0 len cap] w (DrwA w):=by
 have C0:Hid (qb1 (w.alloc (zQ3)) W0 a0 len/\W0<=(w.alloc (zQ3)).heap.size/\Below w.heap.size w (w.alloc (zQ3))/\Bx (w.alloc (zQ3)) w.heap.size (.slice none 0 0) (.slice none 0 0) (.slice none 0 0) (.slice none 0 0)/\(w.alloc (zQ3)).heap.size=w.heap.size+1):=⟨hB.kept (fun k hk=>(zQ w (zQ3)).block k (by omega)),by simp;omega,zQ _ _,Bx.new w _ _ _ _ _,by simp⟩
 clear hB
 go_enter Tryz.func23,Tryz.ntmps23
 go_wp2_with fail
 generalize w.alloc (zQ3)=W2 at *
 refine (qqw W0 len cap a0 W2 C0.out.1 C0.out.2.1 ln).mono ?_
 rintro e w1 ⟨rfl,hc1,hg1⟩
 have C1:Hid (Cur w1 W0 W2.heap.size a0 len cap/\Below w.heap.size w w1/\Bx w1 w.heap.size (.slice none 0 0) (.slice none 0 0) (.slice none 0 0) (.slice none 0 0)/\W2.heap.size=w.heap.size+1/\W2.heap.size<w1.heap.size):=⟨hc1,C0.out.2.2.1.trans ((qc4 hg1).mono C0.out.2.2.1.size),C0.out.2.2.2.1.below (qc4 hg1),C0.out.2.2.2.2,hc1.lt⟩
 clear hc1 hg1 C0
 generalize W2.heap.size=c at *
 go_wp2_with fail
 refine (qpj W0 c len cap a0 w1 C1.out.1).mono ?_
 rintro e w2 ⟨x,B,T,rfl,hm,hX,hc2,hg2,hcB,hT⟩
 have DA:Hid (DW w (w2.alloc (oQ4 x.pa x.pn x.pc x.sa x.sn x.sc x.wa x.wn x.wc x.ha x.hn x.hc)) W0 c a0 len cap w.heap.size w2.heap.size B T x):=by
  have hs:=hg2.size
  have h1:=C1.out.2.2.2.1
  have h2:=C1.out.2.2.2.2
  refine ⟨hc2.alloc _,(Below.grown C1.out.2.1 hg2 C1.out.2.1.size (fun k hk=>by cases hk;omega)).trans ((zQ _ _).mono (by have:=C1.out.2.1.size;omega)),hX.keep (by simp) fun b _ _ hl=>(zQ w2 _).block b hl,(C1.out.2.2.1.grown hg2 (by simp;omega)).below (zQ _ _),Bx.new _ _ _ _ _ _,Nat.le_refl _,by omega,hcB,by omega,hT⟩
 have HM:Hid x.y.Sm:=hm
 have hn16:(x.hn:Int)<=16:=by
  have h:x.hn<=16:=hm.n.2.2.2
  omega
 have HL:Hid (∀ i,i<x.hn->x.hL i<=1000):=fun i hi=>hm.h i hi
 clear hX hc2 hg2 hcB hT C1 hm
 obtain ⟨⟨z0,z1,z2,z3⟩,-⟩:=DA.out.b6
 go_wp2_with fail
 generalize w2.alloc (oQ4 x.pa x.pn x.pc x.sa x.sn x.sc x.wa x.wn x.wc x.ha x.hn x.hc)=wA at *
 generalize w2.heap.size=M at *
 clear z0 z1 z2 z3
 refine (qhm (x.hn:Int) 1 wA).mono ?_
 rintro e w' ⟨m,rfl,⟨m1,m2,m3⟩,rfl⟩
 go_wp2_with fail
 refine (zY W0 c len cap a0 m _ DA.out.cu (by omega) (by omega)).mono ?_
 rintro e w3 ⟨p,rfl,⟨p0,p1⟩,hc3,hg3⟩
 have D3:Hid (DW w w3 W0 c a0 len cap w.heap.size M B T x):=DA.out.draw hc3 hg3
 clear hc3 hg3 DA
 obtain ⟨⟨z0,z1,z2,z3⟩,-⟩:=D3.out.b6
 by_cases hp:p<(x.hn:Int)
 ·obtain ⟨P,rfl⟩:∃ P:Nat,p=P:=⟨p.toNat,by omega⟩
  have hP:P<x.hn:=by omega
  obtain ⟨b,off,ea,cb⟩:=D3.out.sx.self.h.at hP
  have cb:w3.cell? ⟨b,off+P,none⟩=some (.slice (x.hA P) (x.hL P) (x.hC P)):=cb
  have hk':(x.hL P:Int)<=1000:=by have:=HL.out P hP;omega
  rw [ea] at z3
  clear ea
  go_wp2_with fail
  clear z0 z1 z2 z3 cb
  refine (qk6 W0 c len cap a0 ((x.hL P:Int)+1) w3 D3.out.cu (by omega) (by omega)).mono ?_
  rintro e w4 ⟨k,rfl,⟨k0,k1⟩,hc4,hg4⟩
  have D4:Hid (DW w w4 W0 c a0 len cap w.heap.size M B T x):=D3.out.draw hc4 hg4
  clear hc4 hg4 D3 hP HL
  generalize x.hL P=lP at *
  have hPP:-1<=(P:Int)/\(P:Int)<=16:=by omega
  clear hp p0 p1 m1 m2 m3
  go_wp2_with fail
  refine (zY W0 c len cap a0 15 w4 D4.out.cu (by omega) (by omega)).mono ?_
  rintro e w5 ⟨r,rfl,⟨r0,r1⟩,hc5,hg5⟩
  have D5:Hid (DW w w5 W0 c a0 len cap w.heap.size M B T x):=D4.out.draw hc5 hg5
  clear hc5 hg5 D4
  by_cases e0:r=0
  ·subst e0
   go_wp2_with fail
   have cN5:c<w5.heap.size:=D5.out.cu.lt
   refine (qci W0 c len cap w5.heap.size 2 2 a0 pickP _ (D5.out.cu.alloc _) (by omega) (by omega) (by simp) (by omega) (qof w5)).mono ?_
   rintro e w6 ⟨i,hi,rfl,hc6,hg6⟩
   have D6:Hid (DW w w6 W0 c a0 len cap w.heap.size M B T x):=(D5.out.alloc _).draw hc6 hg6
   clear hc6 hg6 D5 cN5
   have hv:=qog i
   generalize pickP i=v at *
   obtain ⟨⟨x0,x1,x2,x3⟩,xf⟩:=D6.out.b2
   obtain ⟨⟨z0,z1,z2,z3⟩,-⟩:=D6.out.b6
   go_wp2
   refine bodyPost_ret (v:=.tuple #[x.v,.int .i64 v,.int .i64 k]) (by simp [results,Tryz.results23,go_sem,x0,x1,x2,x3]) rfl ⟨x,v,k,B,T,rfl,HM.out,?_,?_,?_,?_,by omega,by omega⟩
   ·exact D6.out.set4 _ _ _ _
   ·have:=D6.out.sz
    omega
   ·have:=D6.out.sz
    have:=D6.out.b6.lt
    simp
    omega
   ·exact (((D6.out.be.setCell (Nat.le_refl _) _).setCell (Nat.le_refl _) _).setCell (Nat.le_refl _) _).setCell (Nat.le_refl _) _
  ·by_cases e1:r=1
   ·subst e1
    go_wp2_with fail
    have cN5:c<w5.heap.size:=D5.out.cu.lt
    refine (qci W0 c len cap w5.heap.size 2 2 a0 pickK _ (D5.out.cu.alloc _) (by omega) (by omega) (by simp) (by omega) (qod w5)).mono ?_
    rintro e w6 ⟨i,hi,rfl,hc6,hg6⟩
    have D6:Hid (DW w w6 W0 c a0 len cap w.heap.size M B T x):=(D5.out.alloc _).draw hc6 hg6
    clear hc6 hg6 D5 cN5
    have hv:=qoe i
    generalize pickK i=v at *
    obtain ⟨⟨x0,x1,x2,x3⟩,xf⟩:=D6.out.b2
    obtain ⟨⟨z0,z1,z2,z3⟩,-⟩:=D6.out.b6
    go_wp2
    refine bodyPost_ret (v:=.tuple #[x.v,.int .i64 (P:Int),.int .i64 v]) (by simp [results,Tryz.results23,go_sem,x0,x1,x2,x3]) rfl ⟨x,(P:Int),v,B,T,rfl,HM.out,?_,?_,?_,?_,by omega,by omega⟩
    ·exact D6.out.set4 _ _ _ _
    ·have:=D6.out.sz
     omega
    ·have:=D6.out.sz
     have:=D6.out.b6.lt
     simp
     omega
    ·exact (((D6.out.be.setCell (Nat.le_refl _) _).setCell (Nat.le_refl _) _).setCell (Nat.le_refl _) _).setCell (Nat.le_refl _) _
   ·have e0':(r == 0)=false:=by simpa using e0
    have e1':(r == 1)=false:=by simpa using e1
    obtain ⟨⟨x0,x1,x2,x3⟩,xf⟩:=D5.out.b2
    obtain ⟨⟨z0,z1,z2,z3⟩,-⟩:=D5.out.b6
    go_wp2
    refine bodyPost_ret (v:=.tuple #[x.v,.int .i64 (P:Int),.int .i64 k]) (by simp [results,Tryz.results23,go_sem,x0,x1,x2,x3]) rfl ⟨x,(P:Int),k,B,T,rfl,HM.out,?_,?_,?_,?_,by omega,by omega⟩
    ·exact D5.out.set4 _ _ _ _
    ·have:=D5.out.sz
     omega
    ·have:=D5.out.sz
     have:=D5.out.b6.lt
     simp
     omega
    ·exact (((D5.out.be.setCell (Nat.le_refl _) _).setCell (Nat.le_refl _) _).setCell (Nat.le_refl _) _).setCell (Nat.le_refl _) _
 ·clear z0 z1 z2 z3
  obtain ⟨⟨z0,z1,z2,z3⟩,-⟩:=D3.out.b6
  have hpn:¬ p<(x.hn:Int):=hp
  go_wp2_with fail
  clear z0 z1 z2 z3
  refine (zY W0 c len cap a0 15 w3 D3.out.cu (by omega) (by omega)).mono ?_
  rintro e w5 ⟨r,rfl,⟨r0,r1⟩,hc5,hg5⟩
  have D5:Hid (DW w w5 W0 c a0 len cap w.heap.size M B T x):=D3.out.draw hc5 hg5
  clear hc5 hg5 D3
  by_cases e0:r=0
  ·subst e0
   go_wp2_with fail
   have cN5:c<w5.heap.size:=D5.out.cu.lt
   refine (qci W0 c len cap w5.heap.size 2 2 a0 pickP _ (D5.out.cu.alloc _) (by omega) (by omega) (by simp) (by omega) (qof w5)).mono ?_
   rintro e w6 ⟨i,hi,rfl,hc6,hg6⟩
   have D6:Hid (DW w w6 W0 c a0 len cap w.heap.size M B T x):=(D5.out.alloc _).draw hc6 hg6
   clear hc6 hg6 D5 cN5
   have hv:=qog i
   generalize pickP i=v at *
   obtain ⟨⟨x0,x1,x2,x3⟩,xf⟩:=D6.out.b2
   obtain ⟨⟨z0,z1,z2,z3⟩,-⟩:=D6.out.b6
   go_wp2
   refine bodyPost_ret (v:=.tuple #[x.v,.int .i64 v,.int .i64 0]) (by simp [results,Tryz.results23,go_sem,x0,x1,x2,x3]) rfl ⟨x,v,0,B,T,rfl,HM.out,?_,?_,?_,?_,by omega,by omega⟩
   ·exact D6.out.set4 _ _ _ _
   ·have:=D6.out.sz
    omega
   ·have:=D6.out.sz
    have:=D6.out.b6.lt
    simp
    omega
   ·exact (((D6.out.be.setCell (Nat.le_refl _) _).setCell (Nat.le_refl _) _).setCell (Nat.le_refl _) _).setCell (Nat.le_refl _) _
  ·by_cases e1:r=1
   ·subst e1
    go_wp2_with fail
    have cN5:c<w5.heap.size:=D5.out.cu.lt
    refine (qci W0 c len cap w5.heap.size 2 2 a0 pickK _ (D5.out.cu.alloc _) (by omega) (by omega) (by simp) (by omega) (qod w5)).mono ?_
    rintro e w6 ⟨i,hi,rfl,hc6,hg6⟩
    have D6:Hid (DW w w6 W0 c a0 len cap w.heap.size M B T x):=(D5.out.alloc _).draw hc6 hg6
    clear hc6 hg6 D5 cN5
    have hv:=qoe i
    generalize pickK i=v at *
    obtain ⟨⟨x0,x1,x2,x3⟩,xf⟩:=D6.out.b2
    obtain ⟨⟨z0,z1,z2,z3⟩,-⟩:=D6.out.b6
    go_wp2
    refine bodyPost_ret (v:=.tuple #[x.v,.int .i64 p,.int .i64 v]) (by simp [results,Tryz.results23,go_sem,x0,x1,x2,x3]) rfl ⟨x,p,v,B,T,rfl,HM.out,?_,?_,?_,?_,by omega,by omega⟩
    ·exact D6.out.set4 _ _ _ _
    ·have:=D6.out.sz
     omega
    ·have:=D6.out.sz
     have:=D6.out.b6.lt
     simp
     omega
    ·exact (((D6.out.be.setCell (Nat.le_refl _) _).setCell (Nat.le_refl _) _).setCell (Nat.le_refl _) _).setCell (Nat.le_refl _) _
   ·have e0':(r == 0)=false:=by simpa using e0
    have e1':(r == 1)=false:=by simpa using e1
    obtain ⟨⟨x0,x1,x2,x3⟩,xf⟩:=D5.out.b2
    obtain ⟨⟨z0,z1,z2,z3⟩,-⟩:=D5.out.b6
    go_wp2
    refine bodyPost_ret (v:=.tuple #[x.v,.int .i64 p,.int .i64 0]) (by simp [results,Tryz.results23,go_sem,x0,x1,x2,x3]) rfl ⟨x,p,0,B,T,rfl,HM.out,?_,?_,?_,?_,by omega,by omega⟩
    ·exact D5.out.set4 _ _ _ _
    ·have:=D5.out.sz
     omega
    ·have:=D5.out.sz
     have:=D5.out.b6.lt
     simp
     omega
    ·exact (((D5.out.be.setCell (Nat.le_refl _) _).setCell (Nat.le_refl _) _).setCell (Nat.le_refl _) _).setCell (Nat.le_refl _) _
def DrwB (w:World) (e:Ending) (w':World):Prop:=∃ (x:SysIn) (a:Int) (B T:Nat),e=.returned (.tuple #[x.v,.int .i64 a])/\x.y.Sm/\SysX w' B T x/\w.heap.size<=B/\T<=w'.heap.size/\Below w.heap.size w w'/\(-1<=a/\a<=16)
theorem qg4 (W0 len cap:Nat) (a0:Option Addr) (w:World) (hB:qb1 w W0 a0 len) (hW:W0<=w.heap.size) (ln:len<=1048576):
  Calls Tryz.prog 6 #[.slice a0 len cap] w (DrwB w):=by
 have C0:Hid (qb1 (w.alloc (zQ3)) W0 a0 len/\W0<=(w.alloc (zQ3)).heap.size/\Below w.heap.size w (w.alloc (zQ3))/\Bx (w.alloc (zQ3)) w.heap.size (.slice none 0 0) (.slice none 0 0) (.slice none 0 0) (.slice none 0 0)/\(w.alloc (zQ3)).heap.size=w.heap.size+1):=⟨hB.kept (fun k hk=>(zQ w (zQ3)).block k (by omega)),by simp;omega,zQ _ _,Bx.new w _ _ _ _ _,by simp⟩
 clear hB
 go_enter Tryz.func6,Tryz.ntmps6
 go_wp2_with fail
 generalize w.alloc (zQ3)=W2 at *
 refine (qk7 W0 len cap a0 W2 C0.out.1 C0.out.2.1 ln).mono ?_
 rintro e w2 ⟨x,a,b,B,T,rfl,hm,hX,hBl,hT,hb,ha1,hb1⟩
 have HM:Hid x.y.Sm:=hm
 have hab:(-1<=a/\a<=16)/\(-1<=b/\b<=1000):=⟨ha1,hb1⟩
 have F:Hid (SysX (w2.alloc (oQ4 x.pa x.pn x.pc x.sa x.sn x.sc x.wa x.wn x.wc x.ha x.hn x.hc)) B T x/\Bx (w2.alloc (oQ4 x.pa x.pn x.pc x.sa x.sn x.sc x.wa x.wn x.wc x.ha x.hn x.hc)) w.heap.size (.slice none 0 0) (.slice none 0 0) (.slice none 0 0) (.slice none 0 0)/\Bx (w2.alloc (oQ4 x.pa x.pn x.pc x.sa x.sn x.sc x.wa x.wn x.wc x.ha x.hn x.hc)) w2.heap.size (.slice x.pa x.pn x.pc) (.slice x.sa x.sn x.sc) (.slice x.wa x.wn x.wc) (.slice x.ha x.hn x.hc)/\Below w.heap.size w (w2.alloc (oQ4 x.pa x.pn x.pc x.sa x.sn x.sc x.wa x.wn x.wc x.ha x.hn x.hc))/\w.heap.size<B/\T<=w2.heap.size):=by
  have h1:=C0.out.2.2.2.2
  have h2:=hb.size
  exact ⟨hX.keep (by simp) fun b _ _ hl=>(zQ w2 _).block b hl,(C0.out.2.2.2.1.below hb).below (zQ _ _),Bx.new _ _ _ _ _ _,(C0.out.2.2.1.trans (hb.mono (by omega))).trans ((zQ _ _).mono (by omega)),by omega,hT⟩
 clear hX hBl hT hb hm ha1 hb1 C0
 go_upto_region 2 with fail
 generalize w2.alloc (oQ4 x.pa x.pn x.pc x.sa x.sn x.sc x.wa x.wn x.wc x.ha x.hn x.hc)=wA at *
 generalize w2.heap.size=M at *
 obtain ⟨⟨x0,x1,x2,x3⟩,xf⟩:=F.out.2.1
 obtain ⟨⟨z0,z1,z2,z3⟩,-⟩:=F.out.2.2.1
 go_wp2
 refine bodyPost_ret (v:=.tuple #[x.v,.int .i64 a]) (by simp [results,Tryz.results6,go_sem,x0,x1,x2,x3]) rfl ⟨x,a,B,T,rfl,HM.out,?_,?_,?_,?_,hab.1⟩
 ·exact F.out.1.keep (by simp) fun b hb _ _=>by
   have:=F.out.2.2.2.2.1
   rw [zO _ _ _ _ (by show b≠w.heap.size;omega),zO _ _ _ _ (by show b≠w.heap.size;omega),zO _ _ _ _ (by show b≠w.heap.size;omega),zO _ _ _ _ (by show b≠w.heap.size;omega)]
 ·exact Nat.le_of_lt F.out.2.2.2.2.1
 ·have:=F.out.2.2.2.2.2
  have:=F.out.2.2.1.lt
  simp
  omega
 ·exact (((F.out.2.2.2.1.setCell (Nat.le_refl _) _).setCell (Nat.le_refl _) _).setCell (Nat.le_refl _) _).setCell (Nat.le_refl _) _
structure WJ (w wr:World) (X:Nat) (x:SysIn):Prop where
 g:SysG wr x
 bx:BoxC wr X (.slice x.pa x.pn x.pc) (.slice x.sa x.sn x.sc) (.slice x.wa x.wn x.wc) (.slice x.ha x.hn x.hc)
 be:Below w.heap.size w wr
theorem WJ.below {w wr w':World} {X:Nat} {x:SysIn} (h:WJ w wr X x) (hb:Below wr.heap.size wr w'):WJ w w' X x:=⟨h.g.below hb,h.bx.below hb,h.be.trans (hb.mono h.be.size)⟩
theorem WJ.lt {w wr:World} {X:Nat} {x:SysIn} (h:WJ w wr X x):X<wr.heap.size:=zJ wr _ h.bx.1
theorem qae.inJ {z:Bool} {w:World} {B:Nat} {y:Sy} {v:Value} (o:qae z w B y v):∃ x:SysIn,v=x.v/\x.y=y/\SysG w x/\(∀ i,i<x.hn->x.hL i<=x.hC i)/\x.Nn false:=by
 obtain ⟨x,e1,e2,h⟩:=o.sysT.x
 exact ⟨x,e1,e2,h.self,h.cap,h.nn⟩
open Go.ChangeShapes Go.WideShapes Go.ChangeAt
theorem qhv (a0 a1:Option Addr) (n c0 c1:Nat) (h:Nat->E3) (w:World) (hlen:n<=1048576) (h0:EvL w a0 n h) (h1:EvL w a1 n h):
  Calls Tryz.prog 36 #[.slice a0 n c0,.slice a1 n c1] w fun e w'=>e=.returned (.bool true)/\Below w.heap.size w w':=by
 have hl':(n:Int)<=1048576:=by omega
 have H0:Hid (EvL w a0 n h):=h0
 have H1:Hid (EvL w a1 n h):=h1
 clear h0 h1
 go_enter Tryz.func36,Tryz.ntmps36
 go_wp2_with fail
 go_loopw [5] (fun i wr=>∃ k:Nat,k<=n/\i=.int .i64 k/\Below w.heap.size w wr) (fun i _=>n - (intOf i).toNat)
 case atStart=>exact ⟨0,Nat.zero_le _,rfl,Below.refl _ _⟩
 case round=>
  obtain ⟨k,hk,rfl,hbw⟩:=hrel
  by_cases hlt:k<n
  ·obtain ⟨b,off,rfl,hbl,ck0,ck1,ck2⟩:=(H0.out.below hbw).at hlt
   obtain ⟨b',off',rfl,hbl',ck0',ck1',ck2'⟩:=(H1.out.below hbw).at hlt
   have hlt':(k:Int)<(n:Int):=by omega
   go_wp2_with fail
   go_quiet (fail)
   go_wp2
   go_roundw
   case rel=>exact ⟨k+1,by omega,by go_num,yC hbw _⟩
   case measure=>simp [intOf];omega
  ·go_wp2
   go_ret
   exact ⟨rfl,hbw⟩
structure Tw (w:World) (N:Nat) (x x':SysIn):Prop where
 g:SysG w x
 g':SysG w x'
 b:BoxC w N (.slice x.pa x.pn x.pc) (.slice x.sa x.sn x.sc) (.slice x.wa x.wn x.wc) (.slice x.ha x.hn x.hc)
 b':BoxC w (N+1) (.slice x'.pa x'.pn x'.pc) (.slice x'.sa x'.sn x'.sc) (.slice x'.wa x'.wn x'.wc) (.slice x'.ha x'.hn x'.hc)
theorem Tw.below {w w':World} {N:Nat} {x x':SysIn} (h:Tw w N x x') (hb:Below w.heap.size w w'):Tw w' N x x':=⟨h.g.below hb,h.g'.below hb,h.b.below hb,h.b'.below hb⟩
theorem Tw.new (w:World) (x x':SysIn) (hG:SysG w x) (hG':SysG w x'):Tw ((w.alloc (oQ4 x.pa x.pn x.pc x.sa x.sn x.sc x.wa x.wn x.wc x.ha x.hn x.hc)).alloc (oQ4 x'.pa x'.pn x'.pc x'.sa x'.sn x'.sc x'.wa x'.wn x'.wc x'.ha x'.hn x'.hc)) w.heap.size x x':=by
 have hb:Below w.heap.size w ((w.alloc (oQ4 x.pa x.pn x.pc x.sa x.sn x.sc x.wa x.wn x.wc x.ha x.hn x.hc)).alloc (oQ4 x'.pa x'.pn x'.pc x'.sa x'.sn x'.sc x'.wa x'.wn x'.wc x'.ha x'.hn x'.hc)):=(zQ _ _).trans ((zQ _ _).mono (by simp))
 refine ⟨hG.below hb,hG'.below hb,(BoxC.new w _ _ _ _ _).below (zQ _ _),?_⟩
 have h:=BoxC.new (w.alloc (oQ4 x.pa x.pn x.pc x.sa x.sn x.sc x.wa x.wn x.wc x.ha x.hn x.hc)) (.slice x'.pa x'.pn x'.pc) (.slice x'.sa x'.sn x'.sc) (.slice x'.wa x'.wn x'.wc) (.slice x'.ha x'.hn x'.hc) 29
 rw [World.size_alloc] at h
 exact h
theorem EvL.congr {w:World} {a:Option Addr} {n:Nat} {h h':Nat->E3} (o:EvL w a n h) (e:∀ i,i<n->h' i=h i):EvL w a n h':=by
 rcases o with o | ⟨b,off,ea,hb,o⟩
 ·exact .inl o
 ·exact .inr ⟨b,off,ea,hb,fun i hi=>by rw [e i hi];exact o i hi⟩
def Sy.EqH (y' y:Sy):Prop:=y'.hn=y.hn/\∀ k,k<y.hn->y'.hL k=y.hL k/\∀ i,i<y.hL k->y'.hH k i=y.hH k i
def Sy.EqS (y' y:Sy):Prop:=y'.sn=y.sn/\∀ k,k<y.sn->y'.sS k=y.sS k
theorem qm8 (x x':SysIn) (w:World) (hy:x'.y.EqH x.y) (hG:SysG w x) (hG':SysG w x') (hL:x.Len):
  Calls Tryz.prog 11 #[x.v,x'.v] w fun e w'=>e=.returned (.bool true)/\Below w.heap.size w w':=by
 have hn:x'.hn=x.hn:=hy.1
 have hl':(x.hn:Int)<=1048576:=by have:=hL.h.1;omega
 have T0:Hid (Tw ((w.alloc (oQ4 x.pa x.pn x.pc x.sa x.sn x.sc x.wa x.wn x.wc x.ha x.hn x.hc)).alloc (oQ4 x'.pa x'.pn x'.pc x'.sa x'.sn x'.sc x'.wa x'.wn x'.wc x'.ha x'.hn x'.hc)) w.heap.size x x'):=Tw.new w x x' hG hG'
 have B0:Hid (Below w.heap.size w ((w.alloc (oQ4 x.pa x.pn x.pc x.sa x.sn x.sc x.wa x.wn x.wc x.ha x.hn x.hc)).alloc (oQ4 x'.pa x'.pn x'.pc x'.sa x'.sn x'.sc x'.wa x'.wn x'.wc x'.ha x'.hn x'.hc))):=(zQ _ _).trans ((zQ _ _).mono (by simp))
 have HY:Hid (x'.y.EqH x.y/\x.Len):=⟨hy,hL⟩
 have HQ:Hid (x'.hn=x.hn):=hn
 clear hG hG' hL hy hn
 go_enter Tryz.func11,Tryz.ntmps11
 go_upto_region 1 with fail
 generalize (w.alloc (oQ4 x.pa x.pn x.pc x.sa x.sn x.sc x.wa x.wn x.wc x.ha x.hn x.hc)).alloc (oQ4 x'.pa x'.pn x'.pc x'.sa x'.sn x'.sc x'.wa x'.wn x'.wc x'.ha x'.hn x'.hc)=W2 at *
 generalize hNN:w.heap.size=N at *
 have HNN:Hid (w.heap.size=N):=hNN
 clear hNN
 obtain ⟨x0,x1,x2,x3⟩:=T0.out.b
 obtain ⟨y0,y1,y2,y3⟩:=T0.out.b'
 rw [HQ.out] at y3
 go_wp2_with fail
 clear x0 x1 x2 x3 y0 y1 y2 y3
 go_loopw [5] (fun i wr=>∃ k:Nat,k<=x.hn/\i=.int .i64 k/\Hid (Tw wr N x x'/\Below N w wr)) (fun i _=>x.hn - (intOf i).toNat)
 case atStart=>exact ⟨0,Nat.zero_le _,rfl,T0.out,B0.out⟩
 case round=>
  obtain ⟨k,hk,rfl,HT⟩:=hrel
  obtain ⟨x0,x1,x2,x3⟩:=HT.out.1.b
  obtain ⟨y0,y1,y2,y3⟩:=HT.out.1.b'
  rw [HQ.out] at y3
  have lN:N<wr.heap.size:=zJ wr _ x0
  have lM:N+1<wr.heap.size:=zJ wr _ y0
  by_cases hlt:k<x.hn
  ·have hlt':(k:Int)<(x.hn:Int):=by omega
   have nlt:¬ (x.hn:Int)<=(k:Int):=by omega
   have eL:x'.hL k=x.hL k:=(HY.out.1.2 k hlt).1
   have eH:∀ i,i<x.hL k->x.hH k i=x'.hH k i:=fun i hi=>((HY.out.1.2 k hlt).2 i hi).symm
   obtain ⟨b,off,ea,ck⟩:=HT.out.1.g.h.at hlt
   obtain ⟨b',off',ea',ck'⟩:=HT.out.1.g'.h.at (show k<x'.hn by rw [HQ.out];exact hlt)
   rw [eL] at ck'
   have E:Hid (EvL wr (x.hA k) (x.hL k) (x.hH k)/\EvL wr (x'.hA k) (x.hL k) (x.hH k)/\x.hL k<=1048576):=⟨HT.out.1.g.hi k hlt,by have:=HT.out.1.g'.hi k (show k<x'.hn by rw [HQ.out];exact hlt);rw [eL] at this;exact this.congr eH,HY.out.2.h.2 k hlt⟩
   rw [ea] at x3
   rw [ea'] at y3
   clear ea ea' eL eH
   have lb:b<wr.heap.size:=zJ wr _ ck
   have lb':b'<wr.heap.size:=zJ wr _ ck'
   go_upto_region 6 with fail
   have q0:Below wr.heap.size wr wr.drew:=(Below.refl wr.heap.size wr).drew
   refine qam (fun w'=>w'.cell? ⟨N,3,none⟩=some (.slice (some ⟨b,off,none⟩) x.hn x.hc)/\w'.cell? ⟨N+1,3,none⟩=some (.slice (some ⟨b',off',none⟩) x.hn x'.hc)/\w'.cell? ⟨b,off+k,none⟩=some (.slice (x.hA k) (x.hL k) (x.hC k))/\w'.cell? ⟨b',off'+k,none⟩=some (.slice (x'.hA k) (x.hL k) (x'.hC k))) (fun _=>false) (by kernel_rfl) ?_
   have hHeld:(fun w':World=>w'.cell? ⟨N,3,none⟩=some (.slice (some ⟨b,off,none⟩) x.hn x.hc)/\w'.cell? ⟨N+1,3,none⟩=some (.slice (some ⟨b',off',none⟩) x.hn x'.hc)/\w'.cell? ⟨b,off+k,none⟩=some (.slice (x.hA k) (x.hL k) (x.hC k))/\w'.cell? ⟨b',off'+k,none⟩=some (.slice (x'.hA k) (x.hL k) (x'.hC k))) wr.drew:=⟨(q0.cell (p:=⟨N,3,none⟩) lN).trans x3,(q0.cell (p:=⟨N+1,3,none⟩) lM).trans y3,(q0.cell (p:=⟨b,_,none⟩) lb).trans ck,(q0.cell (p:=⟨b',_,none⟩) lb').trans ck'⟩
   refine wpGT_of [0,1,2,3,4,5,6,7,8,9] ?_
   iterate 10 (refine wpGT_take rfl hHeld ?_;apply Exists.intro;refine ⟨fun wq hSw=>?_,?_⟩;(· ((try dsimp only at hSw);go_simp;try with_reducible rfl));(try simp only [Act.put,zD,zE,zF]))
   refine wpGT_nil ?_
   refine qaa 10 rfl (by kernel_rfl) (fun K hK=>?_)
   refine qaf rfl 36 _ _ rfl #[.slice (x.hA k) (x.hL k) (x.hC k),.slice (x'.hA k) (x.hL k) (x'.hC k)] (by simp [Act.eval]) (yA Tryz.func36 (by kernel_rfl) rfl) (qhv (x.hA k) (x'.hA k) (x.hL k) (x.hC k) (x'.hC k) (x.hH k) wr.drew E.out.2.2 (E.out.1.below q0) (E.out.2.1.below q0)) ?_
   rintro e w5 ⟨rfl,d5⟩
   refine ⟨_,rfl,?_⟩
   have q5:Below wr.heap.size wr w5:=q0.trans d5
   have hHeld5:(fun w':World=>w'.cell? ⟨N,3,none⟩=some (.slice (some ⟨b,off,none⟩) x.hn x.hc)/\w'.cell? ⟨N+1,3,none⟩=some (.slice (some ⟨b',off',none⟩) x.hn x'.hc)/\w'.cell? ⟨b,off+k,none⟩=some (.slice (x.hA k) (x.hL k) (x.hC k))/\w'.cell? ⟨b',off'+k,none⟩=some (.slice (x'.hA k) (x.hL k) (x'.hC k))) w5:=⟨(q5.cell (p:=⟨N,3,none⟩) lN).trans x3,(q5.cell (p:=⟨N+1,3,none⟩) lM).trans y3,(q5.cell (p:=⟨b,_,none⟩) lb).trans ck,(q5.cell (p:=⟨b',_,none⟩) lb').trans ck'⟩
   refine hK.out _ _ (fun _=>hHeld5) ?_
   clear hHeld
   have hHeld:=hHeld5
   clear hHeld5 d5 hK K
   (try simp only [Act.put,zD,zE,zF])
   refine qab 11 rfl hHeld ?_
   apply Exists.intro
   refine ⟨fun wq hSw=>?_,?_⟩
   ·(try dsimp only at hSw)
    go_simp
    try with_reducible rfl
   (try simp only [Act.put,zD,zE,zF])
   refine qar (by kernel_rfl) ?_ _
   have K5:Hid (Tw w5 N x x'/\Below N w w5):=⟨HT.out.1.below q5,HT.out.2.trans (q5.mono (Nat.le_of_lt lN))⟩
   clear hHeld q5 q0 HT
   go_wp2
   go_roundw
   case rel=>exact ⟨k+1,by omega,by go_num,K5.out⟩
   case measure=>simp [intOf];omega
  ·go_wp2
   go_ret
   exact ⟨rfl,by rw [HNN.out];exact HT.out.2⟩
theorem qju (x x':SysIn) (w:World) (hy:x'.y.EqS x.y) (hG:SysG w x) (hG':SysG w x') (hL:x.Len):
  Calls Tryz.prog 12 #[x.v,x'.v] w fun e w'=>e=.returned (.bool true)/\Below w.heap.size w w':=by
 have hn:x'.sn=x.sn:=hy.1
 have hl':(x.sn:Int)<=1048576:=by have:=hL.s.1;omega
 have T0:Hid (Tw ((w.alloc (oQ4 x.pa x.pn x.pc x.sa x.sn x.sc x.wa x.wn x.wc x.ha x.hn x.hc)).alloc (oQ4 x'.pa x'.pn x'.pc x'.sa x'.sn x'.sc x'.wa x'.wn x'.wc x'.ha x'.hn x'.hc)) w.heap.size x x'):=Tw.new w x x' hG hG'
 have B0:Hid (Below w.heap.size w ((w.alloc (oQ4 x.pa x.pn x.pc x.sa x.sn x.sc x.wa x.wn x.wc x.ha x.hn x.hc)).alloc (oQ4 x'.pa x'.pn x'.pc x'.sa x'.sn x'.sc x'.wa x'.wn x'.wc x'.ha x'.hn x'.hc))):=(zQ _ _).trans ((zQ _ _).mono (by simp))
 have HY:Hid (x'.y.EqS x.y/\x.Len):=⟨hy,hL⟩
 have HQ:Hid (x'.sn=x.sn):=hn
 clear hG hG' hL hy hn
 go_enter Tryz.func12,Tryz.ntmps12
 go_upto_region 1 with fail
 generalize (w.alloc (oQ4 x.pa x.pn x.pc x.sa x.sn x.sc x.wa x.wn x.wc x.ha x.hn x.hc)).alloc (oQ4 x'.pa x'.pn x'.pc x'.sa x'.sn x'.sc x'.wa x'.wn x'.wc x'.ha x'.hn x'.hc)=W2 at *
 generalize hNN:w.heap.size=N at *
 have HNN:Hid (w.heap.size=N):=hNN
 clear hNN
 obtain ⟨x0,x1,x2,x3⟩:=T0.out.b
 obtain ⟨y0,y1,y2,y3⟩:=T0.out.b'
 rw [HQ.out] at y1
 go_wp2_with fail
 clear x0 x1 x2 x3 y0 y1 y2 y3
 go_loopw [5] (fun i wr=>∃ k:Nat,k<=x.sn/\i=.int .i64 k/\Hid (Tw wr N x x'/\Below N w wr)) (fun i _=>x.sn - (intOf i).toNat)
 case atStart=>exact ⟨0,Nat.zero_le _,rfl,T0.out,B0.out⟩
 case round=>
  obtain ⟨k,hk,rfl,HT⟩:=hrel
  obtain ⟨x0,x1,x2,x3⟩:=HT.out.1.b
  obtain ⟨y0,y1,y2,y3⟩:=HT.out.1.b'
  rw [HQ.out] at y1
  have lN:N<wr.heap.size:=zJ wr _ x0
  have lM:N+1<wr.heap.size:=zJ wr _ y0
  by_cases hlt:k<x.sn
  ·have hlt':(k:Int)<(x.sn:Int):=by omega
   have nlt:¬ (x.sn:Int)<=(k:Int):=by omega
   have eS:x'.sS k=x.sS k:=HY.out.1.2 k hlt
   obtain ⟨b,off,ea,lb,ck⟩:=HT.out.1.g.s.row.resolve_left (by omega)
   obtain ⟨b',off',ea',lb',ck'⟩:=HT.out.1.g'.s.row.resolve_left (by have:=HQ.out;omega)
   have ck:=ck k hlt
   have ck':=ck' k (by have:=HQ.out;omega)
   have E0:=HT.out.1.g.s.lst k hlt
   have E1:=HT.out.1.g'.s.lst k (by have:=HQ.out;omega)
   have hb:=HY.out.2.s.2 k hlt
   obtain ⟨e1,e2,e3,e4⟩:(x'.sQ k).p=(x.sQ k).p/\(x'.sQ k).rs=(x.sQ k).rs/\(x'.sQ k).os=(x.sQ k).os/\(x'.sQ k).c=(x.sQ k).c:=⟨congrArg S4.p eS,congrArg S4.rs eS,congrArg S4.os eS,congrArg S4.c eS⟩
   rw [e1,e2,e3,e4] at ck'
   rw [e2,e3] at E1
   generalize (x.sQ k).p=p at *
   generalize (x.sQ k).c=cd at *
   generalize (x.sQ k).rs=rs at *
   generalize (x.sQ k).os=os at *
   generalize (x.sQ k).ra=ra at *
   generalize (x.sQ k).rc=rc at *
   generalize (x.sQ k).oa=oa at *
   generalize (x.sQ k).oc=oc at *
   generalize (x'.sQ k).ra=ra' at *
   generalize (x'.sQ k).rc=rc' at *
   generalize (x'.sQ k).oa=oa' at *
   generalize (x'.sQ k).oc=oc' at *
   obtain ⟨s0,s1,s2,s3⟩:=ck
   obtain ⟨t0,t1,t2,t3⟩:=ck'
   have E:Hid ((Sl wr ra rs/\Sl wr oa os)/\(Sl wr ra' rs/\Sl wr oa' os)/\rs.length<=1048576/\os.length<=1048576):=⟨E0,E1,hb⟩
   rw [ea] at x1
   rw [ea'] at y1
   clear ea ea' eS e1 e2 e3 e4 E0 E1 hb
   go_upto_region 6 with fail
   have q0:Below wr.heap.size wr wr.drew:=(Below.refl wr.heap.size wr).drew
   refine qam (fun w'=>w'.cell? ⟨N,1,none⟩=some (.slice (some ⟨b,off,none⟩) x.sn x.sc)/\w'.cell? ⟨N+1,1,none⟩=some (.slice (some ⟨b',off',none⟩) x.sn x'.sc)/\(w'.cell? ⟨b,off+k*4,none⟩=some (.int .i64 p)/\w'.cell? ⟨b,off+k*4+1,none⟩=some (.slice ra rs.length rc)/\w'.cell? ⟨b,off+k*4+2,none⟩=some (.slice oa os.length oc)/\w'.cell? ⟨b,off+k*4+3,none⟩=some (.int .i64 cd))/\(w'.cell? ⟨b',off'+k*4,none⟩=some (.int .i64 p)/\w'.cell? ⟨b',off'+k*4+1,none⟩=some (.slice ra' rs.length rc')/\w'.cell? ⟨b',off'+k*4+2,none⟩=some (.slice oa' os.length oc')/\w'.cell? ⟨b',off'+k*4+3,none⟩=some (.int .i64 cd))) (fun _=>false) (by kernel_rfl) ?_
   have hHeld:(fun w':World=>w'.cell? ⟨N,1,none⟩=some (.slice (some ⟨b,off,none⟩) x.sn x.sc)/\w'.cell? ⟨N+1,1,none⟩=some (.slice (some ⟨b',off',none⟩) x.sn x'.sc)/\(w'.cell? ⟨b,off+k*4,none⟩=some (.int .i64 p)/\w'.cell? ⟨b,off+k*4+1,none⟩=some (.slice ra rs.length rc)/\w'.cell? ⟨b,off+k*4+2,none⟩=some (.slice oa os.length oc)/\w'.cell? ⟨b,off+k*4+3,none⟩=some (.int .i64 cd))/\(w'.cell? ⟨b',off'+k*4,none⟩=some (.int .i64 p)/\w'.cell? ⟨b',off'+k*4+1,none⟩=some (.slice ra' rs.length rc')/\w'.cell? ⟨b',off'+k*4+2,none⟩=some (.slice oa' os.length oc')/\w'.cell? ⟨b',off'+k*4+3,none⟩=some (.int .i64 cd))) wr.drew:=⟨(q0.cell (p:=⟨N,1,none⟩) lN).trans x1,(q0.cell (p:=⟨N+1,1,none⟩) lM).trans y1,⟨(q0.cell (p:=⟨b,_,none⟩) lb).trans s0,(q0.cell (p:=⟨b,_,none⟩) lb).trans s1,(q0.cell (p:=⟨b,_,none⟩) lb).trans s2,(q0.cell (p:=⟨b,_,none⟩) lb).trans s3⟩,⟨(q0.cell (p:=⟨b',_,none⟩) lb').trans t0,(q0.cell (p:=⟨b',_,none⟩) lb').trans t1,(q0.cell (p:=⟨b',_,none⟩) lb').trans t2,(q0.cell (p:=⟨b',_,none⟩) lb').trans t3⟩⟩
   refine wpGT_of [0,1,2,3,4,5,6,7,8,9] ?_
   iterate 10 (refine wpGT_take rfl hHeld ?_;apply Exists.intro;refine ⟨fun wq hSw=>?_,?_⟩;(· ((try dsimp only at hSw);go_simp;try with_reducible rfl));(try simp only [Act.put,zD,zE,zF]))
   refine wpGT_nil ?_
   refine qaa 10 rfl (by kernel_rfl) (fun K hK=>?_)
   refine qaf rfl 37 _ _ rfl #[stV p ra rs.length rc oa os.length oc cd,stV p ra' rs.length rc' oa' os.length oc' cd] (by simp [Act.eval]) (yA Tryz.func37 (by kernel_rfl) rfl) (qh9 p cd ra oa ra' oa' rc oc rc' oc' rs os wr.drew E.out.2.2.1 E.out.2.2.2 (E.out.1.1.below q0) (E.out.1.2.below q0) (E.out.2.1.1.below q0) (E.out.2.1.2.below q0)) ?_
   rintro e w5 ⟨rfl,d5⟩
   refine ⟨_,rfl,?_⟩
   have q5:Below wr.heap.size wr w5:=q0.trans d5
   have hHeld5:(fun w':World=>w'.cell? ⟨N,1,none⟩=some (.slice (some ⟨b,off,none⟩) x.sn x.sc)/\w'.cell? ⟨N+1,1,none⟩=some (.slice (some ⟨b',off',none⟩) x.sn x'.sc)/\(w'.cell? ⟨b,off+k*4,none⟩=some (.int .i64 p)/\w'.cell? ⟨b,off+k*4+1,none⟩=some (.slice ra rs.length rc)/\w'.cell? ⟨b,off+k*4+2,none⟩=some (.slice oa os.length oc)/\w'.cell? ⟨b,off+k*4+3,none⟩=some (.int .i64 cd))/\(w'.cell? ⟨b',off'+k*4,none⟩=some (.int .i64 p)/\w'.cell? ⟨b',off'+k*4+1,none⟩=some (.slice ra' rs.length rc')/\w'.cell? ⟨b',off'+k*4+2,none⟩=some (.slice oa' os.length oc')/\w'.cell? ⟨b',off'+k*4+3,none⟩=some (.int .i64 cd))) w5:=⟨(q5.cell (p:=⟨N,1,none⟩) lN).trans x1,(q5.cell (p:=⟨N+1,1,none⟩) lM).trans y1,⟨(q5.cell (p:=⟨b,_,none⟩) lb).trans s0,(q5.cell (p:=⟨b,_,none⟩) lb).trans s1,(q5.cell (p:=⟨b,_,none⟩) lb).trans s2,(q5.cell (p:=⟨b,_,none⟩) lb).trans s3⟩,⟨(q5.cell (p:=⟨b',_,none⟩) lb').trans t0,(q5.cell (p:=⟨b',_,none⟩) lb').trans t1,(q5.cell (p:=⟨b',_,none⟩) lb').trans t2,(q5.cell (p:=⟨b',_,none⟩) lb').trans t3⟩⟩
   refine hK.out _ _ (fun _=>hHeld5) ?_
   clear hHeld
   have hHeld:=hHeld5
   clear hHeld5 d5 hK K
   (try simp only [Act.put,zD,zE,zF])
   refine qab 11 rfl hHeld ?_
   apply Exists.intro
   refine ⟨fun wq hSw=>?_,?_⟩
   ·(try dsimp only at hSw)
    go_simp
    try with_reducible rfl
   (try simp only [Act.put,zD,zE,zF])
   refine qar (by kernel_rfl) ?_ _
   have K5:Hid (Tw w5 N x x'/\Below N w w5):=⟨HT.out.1.below q5,HT.out.2.trans (q5.mono (Nat.le_of_lt lN))⟩
   clear hHeld q5 q0 HT
   go_wp2
   go_roundw
   case rel=>exact ⟨k+1,by omega,by go_num,K5.out⟩
   case measure=>simp [intOf];omega
  ·go_wp2
   go_ret
   exact ⟨rfl,by rw [HNN.out];exact HT.out.2⟩
theorem qsj {y:Sy} (hO:y.Ok) {q:Nat} (hq:q<y.pn):y.EqH (bkY y q (y.hL q))/\y.EqS (bkY y q (y.hL q)):=by
 obtain ⟨-,e,h⟩:=qnq hO hq
 have hh:=hO.cn.2.2.1
 have hs:=hO.cn.2.1
 refine ⟨⟨?_,fun k hk=>?_⟩,?_,fun k hk=>?_⟩
 ·rw [e];exact hh
 ·rw [e] at hk ⊢
  have hk':k<y.pn:=hk
  exact ⟨(h k hk').1.symm,fun i hi=>rfl⟩
 ·rw [e];exact hs
 ·rw [e] at hk
  have hk':k<y.pn:=hk
  exact (h k hk').2.symm
theorem qfx (a0:Option Addr) (len cap:Nat) (w:World) (hl:len<=1048576) (hB:qb1 w w.heap.size a0 len) (hV:w.cell? ⟨0,0,none⟩=some (.iface 160 (.agg #[.pointer (some ⟨1,116,none⟩)]))):
  Calls Tryz.prog 3 #[.slice a0 len cap] w fun e w'=>e=.returned (.bool true)/\Below w.heap.size w w':=by
 have HB:Hid (qb1 w w.heap.size a0 len):=hB
 have HV:Hid (∀ wx,Below w.heap.size w wx->wx.cell? ⟨0,0,none⟩=some (.iface 160 (.agg #[.pointer (some ⟨1,116,none⟩)]))):=fun wx hb=>(hb.cell (p:=⟨0,0,none⟩) (zJ w _ hV)).trans hV
 clear hB hV
 go_enter Tryz.func3,Tryz.ntmps3
 go_wp2_with fail
 refine (qp7 a0 len cap w).mono ?_
 rintro e w1 ⟨rfl,rfl⟩
 rw [decide_eq_false (show ¬ (1048576:Int)<(len:Int) by omega)]
 go_wp2_with fail
 refine (qg4 w1.heap.size len cap a0 w1 HB.out (Nat.le_refl _) hl).mono ?_
 rintro e w2 ⟨x,p,B,T,rfl,hm,hX,-,-,b2,hp⟩
 have HM:Hid (x.Len/\(∀ i,i<x.hn->x.hL i<=x.hC i)/\x.Nn false):=⟨hm.inLen,hX.cap,hX.nn⟩
 have K2:Hid (WJ w1 (w2.alloc (oQ4 x.pa x.pn x.pc x.sa x.sn x.sc x.wa x.wn x.wc x.ha x.hn x.hc)) w2.heap.size x):=⟨hX.self.below (zQ _ _),BoxC.new _ _ _ _ _ _,b2.trans ((zQ _ _).mono b2.size)⟩
 clear hX b2 hm HB
 go_wp2_with fail
 generalize w2.alloc (oQ4 x.pa x.pn x.pc x.sa x.sn x.sc x.wa x.wn x.wc x.ha x.hn x.hc)=W2 at *
 generalize w2.heap.size=X at *
 clear w2
 refine (qhk x p W2 K2.out.g HM.out.1 HM.out.2.1 HM.out.2.2 (HV.out _ K2.out.be)).mono ?_
 rintro e w3 ⟨v3,rfl,o3,d3⟩
 obtain ⟨x',rfl,ey,g3,cp3,nn3⟩:=o3.inJ
 have K3:Hid (WJ w1 (w3.alloc (oQ4 x'.pa x'.pn x'.pc x'.sa x'.sn x'.sc x'.wa x'.wn x'.wc x'.ha x'.hn x'.hc)) X x/\WJ w1 (w3.alloc (oQ4 x'.pa x'.pn x'.pc x'.sa x'.sn x'.sc x'.wa x'.wn x'.wc x'.ha x'.hn x'.hc)) w3.heap.size x'/\x'.y=boY x.y p):=⟨(K2.out.below d3).below (zQ _ _),⟨g3.below (zQ _ _),BoxC.new _ _ _ _ _ _,((K2.out.below d3).below (zQ _ _)).be⟩,ey⟩
 clear o3 ey g3 d3 K2 cp3 nn3
 obtain ⟨C,hC⟩:∃ C,boC x.y p=C:=⟨_,rfl⟩
 rw [hC]
 have HC:Hid (boC x.y p=C):=hC
 clear hC
 obtain ⟨k0,k1,k2,k3⟩:=K3.out.1.bx
 go_wp2_with fail
 clear k0 k1 k2 k3
 generalize w3.alloc (oQ4 x'.pa x'.pn x'.pc x'.sa x'.sn x'.sc x'.wa x'.wn x'.wc x'.ha x'.hn x'.hc)=W3 at *
 generalize w3.heap.size=Y at *
 clear w3
 refine (qhw x p W3 K3.out.1.g HM.out.1 HM.out.2.1).mono ?_
 rintro e w4 ⟨v4,rfl,o4,d4⟩
 rw [HC.out]
 obtain ⟨x2,rfl,-,-,-,-⟩:=o4.inJ
 have K4:Hid (WJ w1 (w4.alloc (oQ4 x2.pa x2.pn x2.pc x2.sa x2.sn x2.sc x2.wa x2.wn x2.wc x2.ha x2.hn x2.hc)) X x/\WJ w1 (w4.alloc (oQ4 x2.pa x2.pn x2.pc x2.sa x2.sn x2.sc x2.wa x2.wn x2.wc x2.ha x2.hn x2.hc)) Y x'/\x'.y=boY x.y p):=⟨(K3.out.1.below d4).below (zQ _ _),(K3.out.2.1.below d4).below (zQ _ _),K3.out.2.2⟩
 clear o4 d4 K3
 have hCC:(C != C)=false:=by simp
 go_upto_region 8 with fail
 generalize w4.alloc (oQ4 x2.pa x2.pn x2.pc x2.sa x2.sn x2.sc x2.wa x2.wn x2.wc x2.ha x2.hn x2.hc)=W4 at *
 generalize w4.heap.size=Z4 at *
 clear w4 hCC
 go_cut [51] from 34 to 50 (fun t wx=>t=.bool false/\Hid (WJ w1 wx X x))
 case first=>
  by_cases h0:C=0
  ·subst h0
   have hb:=(qp9 (show bkC x.y p (boK x.y p)=0 from HC.out))
   obtain ⟨P,rfl,hP,-,-⟩:=qfy hb.2.1
   have hPn:P<x.hn:=by have h9:x.hn=x.pn:=hb.1.cn.2.2.1;have:P<x.pn:=hP;omega
   have hst:((x'.hL P:Nat):Int)=(x.hL P:Int) - 1:=by
    have h1:=qo1 (show bkC x.y P (boK x.y P)=0 from HC.out)
    have h2:(bkY x.y P (boK x.y P)).hL=x'.hL:=by
     have:x'.y.hL=(boY x.y P).hL:=by rw [K4.out.2.2]
     exact this.symm
    rw [h2,qqa (y:=x.y) hPn] at h1
    exact h1
   have hPn':P<x'.hn:=by
    have h1:x'.y.hn=x.y.pn:=by rw [K4.out.2.2];show (bkY x.y P (boK x.y P)).hn=_;rw [hb.2.2.2.1];rfl
    have h2:x'.y.hn=x'.hn:=rfl
    have:P<x.pn:=hP
    have h3:x.y.pn=x.pn:=rfl
    omega
   clear hb hP hp
   have i1:(P:Int)<(x.hn:Int):=by omega
   have i2:(P:Int)<(x'.hn:Int):=by omega
   have l1:(x.hL P:Int)<=1048576:=by have:=HM.out.1.h.2 P hPn;omega
   have l2:(x'.hL P:Int)<=1048576:=by omega
   have l3:1<=(x.hL P:Int):=by omega
   have tst:((x'.hL P:Int) != (x.hL P:Int) - 1)=false:=by simp [hst]
   obtain ⟨b,off,ea,cb⟩:=K4.out.1.g.h.at hPn
   obtain ⟨b',off',ea',cb'⟩:=K4.out.2.1.g.h.at hPn'
   have s3:=K4.out.1.bx.2.2.2
   have t3:=K4.out.2.1.bx.2.2.2
   rw [ea] at s3
   rw [ea'] at t3
   clear ea ea' hst
   go_quiet (fail)
   have K5:Hid (WJ w1 (W4.drewN nq) X x):=K4.out.1.below (yC (Below.refl _ _) _)
   generalize W4.drewN nq=W5 at *
   clear s3 t3 cb cb' tst K4 i1 i2 l1 l2 l3
   go_wp2_with fail
   go_meet
   case rel=>exact ⟨by with_reducible rfl,K5.out⟩
  ·have h0':(C == 0)=false:=by simpa using h0
   refine wp_region_quiet_below (by kernel_rfl) (by kernel_rfl) ?_
   repeat (first | go_big_quiet_skip | quiet_step (fail))
   refine wpQuiet_nil ?_
   intro _ hw'
   obtain ⟨⟨dd,os⟩,hw''⟩:=hw'
   subst hw''
   have K5:Hid (WJ w1 (_root_.Go.Sort.grow (redrawn W4 dd) os) X x):=K4.out.1.below (below_regrown W4 dd os)
   generalize _root_.Go.Sort.grow (redrawn W4 dd) os=W5 at *
   clear K4 hp
   go_wp2_with fail
   go_meet
   case rel=>exact ⟨by with_reducible rfl,K5.out⟩
 case rest=>
  obtain ⟨rfl,K5⟩:=hcut
  clear K4 hp
  obtain ⟨k0,k1,k2,k3⟩:=K5.out.bx
  go_wp2_with fail
  clear k0 k1 k2 k3
  refine (qcc x _ K5.out.g HM.out.1 HM.out.2.1).mono ?_
  rintro e w6 ⟨rfl,b6⟩
  have K6:Hid (WJ w1 w6 X x):=K5.out.below b6
  clear b6 K5
  generalize ht:x.y.okB=T9
  cases T9
  ·have hc1:C=1:=by
    have:=HC.out
    unfold boC bkC at this
    rw [if_neg (by rw [ht];simp)] at this
    exact this.symm
   have BE:Hid (Below w1.heap.size w1 w6):=K6.out.be
   clear K6 ht
   subst hc1
   go_wp2
   go_ret
   exact ⟨rfl,BE.out⟩
  have HOK:Hid x.y.Ok:=Sy.ok_of ht
  clear ht
  go_wp2_with fail
  go_loopw [9] (fun i wr=>∃ q:Nat,q<=x.hn/\i=.int .i64 q/\Hid (WJ w1 wr X x)) (fun i _=>x.hn - (intOf i).toNat)
  case atStart=>exact ⟨0,Nat.zero_le _,rfl,K6.out⟩
  case round=>
   clear K6
   obtain ⟨q,hq,rfl,HK⟩:=hrel
   have hn':(x.hn:Int)<=1048576:=by have:=HM.out.1.h.1;omega
   by_cases hlt:q<x.hn
   ·have hlt':(q:Int)<(x.hn:Int):=by omega
    have hqp:q<x.y.pn:=by have h9:x.y.hn=x.y.pn:=HOK.out.cn.2.2.1;have h8:x.y.hn=x.hn:=rfl;omega
    obtain ⟨hb,ho,ea,ch⟩:=HK.out.g.h.at hlt
    have HA:Hid (x.ha=some ⟨hb,ho,none⟩):=ea
    have hll:(x.hL q:Int)<=1048576:=by have:=HM.out.1.h.2 q hlt;omega
    have s3:=HK.out.bx.2.2.2
    rw [ea] at s3
    have HBA:=qnq HOK.out hqp
    have HEQ:=qsj HOK.out hqp
    obtain ⟨YW,hY⟩:∃ YW,bkY x.y q (x.hL q)=YW:=⟨_,rfl⟩
    rw [show x.y.hL q=x.hL q from rfl,hY] at HEQ
    have HE:Hid (x.y.EqH YW/\x.y.EqS YW):=HEQ
    have HBK:Hid (∀ wx,WJ w1 wx X x->Calls Tryz.prog 10 #[.agg #[.slice x.pa x.pn x.pc,.slice x.sa x.sn x.sc,.slice x.wa x.wn x.wc,.slice (some ⟨hb,ho,none⟩) x.hn x.hc],.int .i64 (q:Int),.int .i64 (x.hL q:Int)] wx fun e w'=>∃ v,e=.returned (.tuple #[v,.int .i64 0])/\qae false w' wx.heap.size YW v/\Below wx.heap.size wx w'):=fun wx hw=>by
     have h9:=qgp (zb:=false) x (q:Int) (x.hL q:Int) wx hw.g HM.out.1 HM.out.2.1 HM.out.2.2 (HV.out _ hw.be)
     rw [show bkC x.y (q:Int) (x.hL q:Int)=0 from HBA.1,hY] at h9
     rw [<- ea]
     exact h9
    have HYS:Hid (YW.Sm):=by rw [<- hY];exact qvc _ _ _
    clear HBA HEQ hY ea
    go_upto_region 15 with fail
    clear s3
    go_cut [10,11] from 64 to 75 (fun s t wx=>∃ N:Nat,s=.pointer (some ⟨N,0,none⟩)/\t=.int .i64 0/\Hid (∃ pa pc sa sc wa wc ha hc,qae false wx wr.heap.size YW (.agg #[.slice pa YW.pn pc,.slice sa YW.sn sc,.slice wa YW.wn wc,.slice ha YW.hn hc])/\Below wr.heap.size wr wx/\BoxC wx N (.slice pa YW.pn pc) (.slice sa YW.sn sc) (.slice wa YW.wn wc) (.slice ha YW.hn hc)))
    case first=>
     have q0:Below wr.heap.size wr wr.drew:=(Below.refl wr.heap.size wr).drew
     refine qam (fun w'=>BoxC w' X (.slice x.pa x.pn x.pc) (.slice x.sa x.sn x.sc) (.slice x.wa x.wn x.wc) (.slice (some ⟨hb,ho,none⟩) x.hn x.hc)/\w'.cell? ⟨hb,ho+q,none⟩=some (.slice (x.hA q) (x.hL q) (x.hC q))) (fun _=>false) (by kernel_rfl) ?_
     have hB5:∀ wx,Below wr.heap.size wr wx->(BoxC wx X (.slice x.pa x.pn x.pc) (.slice x.sa x.sn x.sc) (.slice x.wa x.wn x.wc) (.slice (some ⟨hb,ho,none⟩) x.hn x.hc)/\wx.cell? ⟨hb,ho+q,none⟩=some (.slice (x.hA q) (x.hL q) (x.hC q))):=fun wx hb=>⟨by have h9:=HK.out.bx.below hb;rw [HA.out] at h9;exact h9,(hb.cell (zJ wr _ ch)).trans ch⟩
     have hHeld:(fun w':World=>BoxC w' X (.slice x.pa x.pn x.pc) (.slice x.sa x.sn x.sc) (.slice x.wa x.wn x.wc) (.slice (some ⟨hb,ho,none⟩) x.hn x.hc)/\w'.cell? ⟨hb,ho+q,none⟩=some (.slice (x.hA q) (x.hL q) (x.hC q))) wr.drew:=hB5 _ q0
     refine qab 0 rfl hHeld ?_
     apply Exists.intro
     refine ⟨fun wq hSw=>?_,?_⟩
     ·obtain ⟨⟨h0,h1,h2,h3⟩,h4⟩:=hSw
      go_simp
      try with_reducible rfl
     (try simp only [Act.put,zD,zE,zF])
     refine qab 1 rfl hHeld ?_
     apply Exists.intro
     refine ⟨fun wq hSw=>?_,?_⟩
     ·obtain ⟨⟨h0,h1,h2,h3⟩,h4⟩:=hSw
      go_simp
      try with_reducible rfl
     (try simp only [Act.put,zD,zE,zF])
     refine qab 2 rfl hHeld ?_
     apply Exists.intro
     refine ⟨fun wq hSw=>?_,?_⟩
     ·obtain ⟨⟨h0,h1,h2,h3⟩,h4⟩:=hSw
      go_simp
      try with_reducible rfl
     (try simp only [Act.put,zD,zE,zF])
     refine qab 3 rfl hHeld ?_
     apply Exists.intro
     refine ⟨fun wq hSw=>?_,?_⟩
     ·obtain ⟨⟨h0,h1,h2,h3⟩,h4⟩:=hSw
      go_simp
      try with_reducible rfl
     (try simp only [Act.put,zD,zE,zF])
     refine qab 4 rfl hHeld ?_
     apply Exists.intro
     refine ⟨fun wq hSw=>?_,?_⟩
     ·obtain ⟨⟨h0,h1,h2,h3⟩,h4⟩:=hSw
      go_simp
      try with_reducible rfl
     (try simp only [Act.put,zD,zE,zF])
     refine qab 5 rfl hHeld ?_
     apply Exists.intro
     refine ⟨fun wq hSw=>?_,?_⟩
     ·obtain ⟨⟨h0,h1,h2,h3⟩,h4⟩:=hSw
      go_simp
      try with_reducible rfl
     (try simp only [Act.put,zD,zE,zF])
     refine qab 6 rfl hHeld ?_
     apply Exists.intro
     refine ⟨fun wq hSw=>?_,?_⟩
     ·obtain ⟨⟨h0,h1,h2,h3⟩,h4⟩:=hSw
      go_simp
      try with_reducible rfl
     (try simp only [Act.put,zD,zE,zF])
     refine qab 7 rfl hHeld ?_
     apply Exists.intro
     refine ⟨fun wq hSw=>?_,?_⟩
     ·obtain ⟨⟨h0,h1,h2,h3⟩,h4⟩:=hSw
      go_simp
      try with_reducible rfl
     (try simp only [Act.put,zD,zE,zF])
     refine qdq 8 12 rfl rfl (by kernel_rfl) (fun K hK=>?_) (fun K hK=>?_)
     ·refine qaf rfl 10 _ _ rfl #[.agg #[.slice x.pa x.pn x.pc,.slice x.sa x.sn x.sc,.slice x.wa x.wn x.wc,.slice (some ⟨hb,ho,none⟩) x.hn x.hc],.int .i64 (q:Int),.int .i64 (x.hL q:Int)] (by simp [Act.eval]) (yA Tryz.func10 (by kernel_rfl) rfl) (HBK.out wr.drew (HK.out.below q0)) ?_
      rintro e w7 ⟨v7,rfl,o7,d7⟩
      obtain ⟨cq,vp,vs,vw,vh,up,us,uw,uh,rfl,o7⟩:=o7
      obtain ⟨pa,pc,rfl⟩:=zU o7.p.row
      obtain ⟨sa,sc,rfl⟩:=zU o7.s.row
      obtain ⟨wa,wc,rfl⟩:=zU o7.t.row
      obtain ⟨ha,hc,rfl⟩:=zU o7.h.row
      have O7:qae false w7 (wr.drew).heap.size YW (.agg #[.slice pa YW.pn pc,.slice sa YW.sn sc,.slice wa YW.wn wc,.slice ha YW.hn hc]):=⟨_,_,_,_,_,_,_,_,_,rfl,o7⟩
      refine ⟨_,rfl,?_⟩
      have q7:Below wr.heap.size wr w7:=q0.trans (d7.mono q0.size)
      refine hK.out _ _ (fun _=>hB5 _ q7) ?_
      clear hK K o7
      have hHeld:(fun w':World=>BoxC w' X (.slice x.pa x.pn x.pc) (.slice x.sa x.sn x.sc) (.slice x.wa x.wn x.wc) (.slice (some ⟨hb,ho,none⟩) x.hn x.hc)/\w'.cell? ⟨hb,ho+q,none⟩=some (.slice (x.hA q) (x.hL q) (x.hC q))) w7:=hB5 _ q7
      (try simp only [Act.put,zD,zE,zF])
      refine wpGT_of [9,10,11] ?_
      iterate 3 (refine wpGT_take rfl hHeld ?_;apply Exists.intro;refine ⟨fun wq hSw=>?_,?_⟩;(· ((try dsimp only at hSw);go_simp;try with_reducible rfl));(try simp only [Act.put,zD,zE,zF]))
      refine wpGT_nil ?_
      refine qaa 12 rfl (by kernel_rfl) (fun K hK=>?_)
      go_simp
      have qa:=q7.trans ((zQ w7 (zQ3)).mono q7.size)
      refine hK.out _ _ (fun _=>hB5 _ qa) ?_
      clear hK K hHeld
      (try simp only [Act.put,zD,zE,zF])
      refine qaa 13 rfl (by kernel_rfl) (fun K hK=>?_)
      go_simp
      have qb:=q7.trans ((zQ w7 (oQ4 pa YW.pn pc sa YW.sn sc wa YW.wn wc ha YW.hn hc)).mono q7.size)
      refine hK.out _ _ (fun _=>hB5 _ qb) ?_
      clear hK K
      have hHeld:(fun w':World=>BoxC w' X (.slice x.pa x.pn x.pc) (.slice x.sa x.sn x.sc) (.slice x.wa x.wn x.wc) (.slice (some ⟨hb,ho,none⟩) x.hn x.hc)/\w'.cell? ⟨hb,ho+q,none⟩=some (.slice (x.hA q) (x.hL q) (x.hC q))) (w7.alloc (oQ4 pa YW.pn pc sa YW.sn sc wa YW.wn wc ha YW.hn hc)):=hB5 _ qb
      (try simp only [Act.put,zD,zE,zF])
      refine qab 14 rfl hHeld ?_
      apply Exists.intro
      refine ⟨fun wq hSw=>?_,?_⟩
      ·(try dsimp only at hSw)
       go_simp
       try with_reducible rfl
      (try simp only [Act.put,zD,zE,zF])
      refine qar (by kernel_rfl) ?_ _
      go_wp2_with fail
      go_meet
      case rel=>exact ⟨w7.heap.size,by with_reducible rfl,by with_reducible rfl,_,_,_,_,_,_,_,_,(O7.below (zQ _ _)).base q0.size,qb,BoxC.new w7 _ _ _ _ _⟩
     ·go_simp
      have qa:=(zQ wr (zQ3)).drew
      have bN:BoxC (wr.alloc (zQ3)).drew wr.heap.size (.slice none 0 0) (.slice none 0 0) (.slice none 0 0) (.slice none 0 0):=(BoxC.new wr _ _ _ _ _).below (Below.refl _ _).drew
      have fN:∀ j,(wr.alloc (zQ3)).drew.frozen? ⟨wr.heap.size,j,none⟩=false:=fun j=>(World.frozen?_drew _ _).trans (yB _ _ _ _ rfl)
      have zN:wr.heap.size<(wr.alloc (zQ3)).drew.heap.size:=by simp
      refine hK.out _ _ (fun _=>hB5 _ qa) ?_
      clear hK K
      (try simp only [Act.put,zD,zE,zF])
      refine qaa 8 rfl (by kernel_rfl) (fun K hK=>?_)
      obtain ⟨N,hNN⟩:∃ N,N=wr.heap.size:=⟨_,rfl⟩
      have sN6:wr.heap.size<=N:=by omega
      have bN:BoxC (wr.alloc (zQ3)).drew N (.slice none 0 0) (.slice none 0 0) (.slice none 0 0) (.slice none 0 0):=by rw [hNN];exact bN
      have fN:∀ j,(wr.alloc (zQ3)).drew.frozen? ⟨N,j,none⟩=false:=by rw [hNN];exact fN
      have zN:N<(wr.alloc (zQ3)).drew.heap.size:=by rw [hNN];exact zN
      rw [<- hNN]
      clear hNN
      generalize (wr.alloc (zQ3)).drew=wC at *
      refine qaf rfl 10 _ _ rfl #[.agg #[.slice x.pa x.pn x.pc,.slice x.sa x.sn x.sc,.slice x.wa x.wn x.wc,.slice (some ⟨hb,ho,none⟩) x.hn x.hc],.int .i64 (q:Int),.int .i64 (x.hL q:Int)] (by simp [Act.eval]) (yA Tryz.func10 (by kernel_rfl) rfl) (HBK.out wC (HK.out.below qa)) ?_
      rintro e w7 ⟨v7,rfl,o7,d7⟩
      obtain ⟨cq,vp,vs,vw,vh,up,us,uw,uh,rfl,o7⟩:=o7
      obtain ⟨pa,pc,rfl⟩:=zU o7.p.row
      obtain ⟨sa,sc,rfl⟩:=zU o7.s.row
      obtain ⟨wa,wc,rfl⟩:=zU o7.t.row
      obtain ⟨ha,hc,rfl⟩:=zU o7.h.row
      have O7:qae false w7 (wC).heap.size YW (.agg #[.slice pa YW.pn pc,.slice sa YW.sn sc,.slice wa YW.wn wc,.slice ha YW.hn hc]):=⟨_,_,_,_,_,_,_,_,_,rfl,o7⟩
      refine ⟨_,rfl,?_⟩
      have q7:Below wr.heap.size wr w7:=qa.trans (d7.mono qa.size)
      refine hK.out _ _ (fun _=>hB5 _ q7) ?_
      clear hK K o7
      have hHeld:(fun w':World=>BoxC w' X (.slice x.pa x.pn x.pc) (.slice x.sa x.sn x.sc) (.slice x.wa x.wn x.wc) (.slice (some ⟨hb,ho,none⟩) x.hn x.hc)/\w'.cell? ⟨hb,ho+q,none⟩=some (.slice (x.hA q) (x.hL q) (x.hC q))) w7:=hB5 _ q7
      (try simp only [Act.put,zD,zE,zF])
      refine wpGT_of [9,10,11] ?_
      iterate 3 (refine wpGT_take rfl hHeld ?_;apply Exists.intro;refine ⟨fun wq hSw=>?_,?_⟩;(· ((try dsimp only at hSw);go_simp;try with_reducible rfl));(try simp only [Act.put,zD,zE,zF]))
      refine wpGT_nil ?_
      obtain ⟨n0,n1,n2,n3⟩:=bN.below d7
      have nf:∀ j,w7.frozen? ⟨N,j,none⟩=false:=fun j=>((qah d7).2 _ j zN).trans (fN j)
      refine qaa 13 rfl (by kernel_rfl) (fun K hK=>?_)
      go_simp
      have qb:Below wr.heap.size wr ((((w7.setCell ⟨N,0,none⟩ (.slice pa YW.pn pc)).setCell ⟨N,1,none⟩ (.slice sa YW.sn sc)).setCell ⟨N,2,none⟩ (.slice wa YW.wn wc)).setCell ⟨N,3,none⟩ (.slice ha YW.hn hc)):=(((q7.setCell sN6 _).setCell sN6 _).setCell sN6 _).setCell sN6 _
      refine hK.out _ _ (fun _=>hB5 _ qb) ?_
      clear hK K hHeld
      have hHeld:(fun w':World=>BoxC w' X (.slice x.pa x.pn x.pc) (.slice x.sa x.sn x.sc) (.slice x.wa x.wn x.wc) (.slice (some ⟨hb,ho,none⟩) x.hn x.hc)/\w'.cell? ⟨hb,ho+q,none⟩=some (.slice (x.hA q) (x.hL q) (x.hC q))) ((((w7.setCell ⟨N,0,none⟩ (.slice pa YW.pn pc)).setCell ⟨N,1,none⟩ (.slice sa YW.sn sc)).setCell ⟨N,2,none⟩ (.slice wa YW.wn wc)).setCell ⟨N,3,none⟩ (.slice ha YW.hn hc)):=hB5 _ qb
      (try simp only [Act.put,zD,zE,zF])
      refine qab 14 rfl hHeld ?_
      apply Exists.intro
      refine ⟨fun wq hSw=>?_,?_⟩
      ·(try dsimp only at hSw)
       go_simp
       try with_reducible rfl
      (try simp only [Act.put,zD,zE,zF])
      refine qar (by kernel_rfl) ?_ _
      go_wp2_with fail
      go_meet
      case rel=>exact ⟨N,by with_reducible rfl,by with_reducible rfl,_,_,_,_,_,_,_,_,((((O7.setBelow zN 0 _).setBelow zN 1 _).setBelow zN 2 _).setBelow zN 3 _).base qa.size,qb,BoxC.set4 ⟨n0,n1,n2,n3⟩ _ _ _ _⟩
    case rest=>
     obtain ⟨N,rfl,rfl,HT⟩:=hcut
     obtain ⟨pa,pc,sa,sc,wa,wc,ha,hc,hOw,hBe,hBx⟩:=HT.out
     rename_i w7
     obtain ⟨x7,e7,ey7,g7,-,-⟩:=hOw.inJ
     simp only [SysIn.v,sysV,Value.agg.injEq,Array.mk.injEq,List.cons.injEq,and_true] at e7
     have K7:Hid (WJ w1 w7 X x/\WJ w1 w7 N x7/\x7.y=YW):=⟨HK.out.below hBe,⟨g7,by rw [<- e7.1,<- e7.2.1,<- e7.2.2.1,<- e7.2.2.2];exact hBx,(HK.out.below hBe).be⟩,ey7⟩
     clear hOw hBe hBx HT e7 ey7 g7 ch HBK
     have HE7:Hid (x.y.EqH x7.y/\x.y.EqS x7.y):=by rw [K7.out.2.2];exact HE.out
     have HL7:Hid x7.Len:=by
      show x7.Len
      have h9:=HYS.out
      rw [<- K7.out.2.2] at h9
      exact h9.inLen
     clear HE HYS
     obtain ⟨s0,s1,s2,s3⟩:=K7.out.1.bx
     obtain ⟨t0,t1,t2,t3⟩:=K7.out.2.1.bx
     go_wp2_with (first|(go_at_call 11;refine (qm8 x7 x _ HE7.out.1 K7.out.2.1.g K7.out.1.g HL7.out).mono ?_;rintro e w8 ⟨rfl,d8⟩;clear s0 s1 s2 s3 t0 t1 t2 t3;have K8:Hid (WJ w1 w8 X x/\WJ w1 w8 N x7):=⟨K7.out.1.below d8,K7.out.2.1.below d8⟩;obtain ⟨s0,s1,s2,s3⟩:=K8.out.1.bx;obtain ⟨t0,t1,t2,t3⟩:=K8.out.2.bx;clear d8)|(go_at_call 12;refine (qju x7 x _ HE7.out.2 K8.out.2.g K8.out.1.g HL7.out).mono ?_;rintro e w9 ⟨rfl,d9⟩;have K9:Hid (WJ w1 w9 X x):=K8.out.1.below d9;clear d9 s0 s1 s2 s3 t0 t1 t2 t3))
     go_roundw
     case rel=>exact ⟨q+1,by omega,by go_num,K9.out⟩
     case measure=>simp [intOf];omega
   ·have hlt':¬ (q:Int)<(x.hn:Int):=by omega
    have s3:=HK.out.bx.2.2.2
    have BE:Hid (Below w1.heap.size w1 wr):=HK.out.be
    clear HK
    go_wp2
    go_ret
    exact ⟨rfl,BE.out⟩
theorem qfw (a0:Option Addr) (len cap:Nat) (w:World) (_hm:len<=maxLen) (hl:1048576<len):
  Calls Tryz.prog 3 #[.slice a0 len cap] w fun e w'=>e=.returned (.bool true)/\Below w.heap.size w w':=by
 go_enter Tryz.func3,Tryz.ntmps3
 go_wp2_with fail
 refine (qp7 a0 len cap w).mono ?_
 rintro e w1 ⟨rfl,rfl⟩
 rw [decide_eq_true (show (1048576:Int)<(len:Int) by omega)]
 go_wp2
 go_ret
 exact ⟨rfl,Below.refl _ _⟩
theorem qh1 (os:Os) (started:os.Started) (H:Type) (enc:TypeId × Value->H):
  ReturnsInHanded {} Tryz.checked os 3 .any (fun w args => (Rows.fnBackOneSpec.pre enc Tryz.prog Tryz.f3 [] false w args /\ laidMetH Tryz.prog [("errors.errorType", Rows.laid_errors_errorType)] w) /\ sizedMet enc Tryz.prog Tryz.f3 (OpenSpec.ofChange Rows.fnBackOneSpec) false w args)
   (Rows.fnBackOneSpec.post enc Tryz.prog Tryz.f3 false true false false):=by
 refine returnsInHanded_of_change_and (C := Tryz.checked) (X := fun w _ => laidMetH Tryz.prog [("errors.errorType", Rows.laid_errors_errorType)] w) (fun _ _ _ hh h => h.of_heap hh) Tryz.own started (by kernel_rfl) Tryz.func3
  (ChangeSpec.witness_at (enc := enc) (C := Tryz.checked) (os := os) (X := fun w _ => laidMetH Tryz.prog [("errors.errorType", Rows.laid_errors_errorType)] w) false (qk8 os) #[.slice none 0 0] 8 rfl (by kernel_rfl) (by kernel_rfl) (by kernel_rfl) (by kernel_rfl) (by kernel_rfl) (qji os _)) ?_
 intro W base args ds gs before hval0 hW _ _ hL _
 have hval:∀ (j:Nat) t v,Tryz.f3.params[j]? = some t->args[j]? = some v->Value.okWide Tryz.prog W .any base t v:=hval0
 have hW':=hW
 obtain ⟨p,q,hA0,hV,rfl,hfz,hnd⟩:=hW
 have hA:DataW.TrodAll enc Tryz.prog W 0 (fun _=>true) true Tryz.f3.params.toList args.toList ds p:=hA0
 rw [Tryz.params3] at hA hval
 obtain ⟨v0,d0,rfl,rfl,h0⟩:=trodAll_one hA
 obtain ⟨rfl,rfl⟩:=trodVars_none hV
 have lt0:∀ x ∈ p,x.block<W.heap.size:=by obtain ⟨m,hm⟩:=h0;exact DataW.trod_lt m _ _ _ hm
 have hg:=qh4 hL
 clear hA0 hval0
 have hlaw:Calls Tryz.prog 3 #[v0] W fun e w'=>e=.returned (.bool true)/\Below W.heap.size W w':=by
  obtain ⟨a0,len,cap,rfl⟩:=okWide_slice Tryz.underlying22 (hval 0 22 v0 rfl rfl)
  obtain ⟨hm,hB⟩:=qpo h0
  by_cases hs:len<=1048576
  ·exact qfx a0 len cap W hs hB hg
  ·exact qfw a0 len cap W hm (by omega)
 refine hlaw.mono fun e W' ⟨he,bel⟩=>?_
 subst he
 exact ⟨_,rfl,_,_,_,[],_,[],hW',trodAll_mk1 (shut_bool Tryz.underlying4 _),trodAll_mk1 (Below.trod Tryz.laidOut (by kernel_rfl) (of_decide_eq_true (by kernel_rfl)) h0 bel lt0),rfl,bel.frame _,fun h=>by cases h⟩
theorem qkq:Rows.FnBackOneSaid:=
 OpenClaim.holds_of_wide 3 Tryz.f3 rfl rfl rfl rfl rfl rfl rfl ⟨rfl,rfl,rfl,rfl,rfl⟩ rfl rfl rfl rfl rfl (by kernel_rfl) Tryz.func3 (by kernel_rfl)
  (of_decide_eq_true (by kernel_rfl)) (by unfold Func.isWrapper;first|(rw [if_pos (by decide +kernel)];kernel_rfl)|(rw [if_neg (by decide +kernel)];exact ⟨rfl,rfl⟩))
  (fun os started H enc _=>qh1 os started H enc)
theorem qiq (f : FuncId) (fn : Func) (hf : Tryz.pinned.checked.prog.funcNamed "loop.example/g00196/laws.FnBackOne" = some f) (hfn : Tryz.pinned.checked.prog.funcs[f]? = some fn) :
  true=Tryz.pinned.checked.prog.looks []/\∀ (j:Nat) t,fn.params[j]? = some t->Tryz.pinned.checked.prog.wantsStandIn t=false:=by
 obtain rfl : f = 3 := Option.some.inj ((show Tryz.prog.funcNamed "loop.example/g00196/laws.FnBackOne" = some 3 by kernel_rfl).symm.trans hf) |>.symm
 obtain rfl:fn=Tryz.f3:=(Option.some.inj (Tryz.func3.symm.trans hfn)).symm
 refine ⟨by kernel_rfl,fun j t ht=>?_⟩
 rw [Tryz.params3] at ht
 have hm:=Array.mem_of_getElem? ht
 simp at hm
 obtain rfl:=hm
 exact (show Tryz.prog.wantsStandIn 22=false by kernel_rfl)
theorem backOneD_card:Rows.FnBackOneCardSaid:=
 Claim7.holds_tied_plain_at .later [] _ _ _ _ qkq (fun _ h=>by cases h) (by kernel_rfl) (fun _ h=>by cases h) fnBackOne_row_tie rfl ⟨rfl,rfl⟩ (by kernel_rfl) rfl qiq (by kernel_rfl)
