import Derived.Test.YthdaejgmfognbaaGreatDoorTe0
import Derived.Test.YthdaejgmfognbaaGreatDoorTe44
import Derived.Deep.RegionLaw
import Derived.Deep.Cut
import Derived.Test.YthdaejgmfognbaaGreatDoorTe38
namespace Go.Proofs.YthdaejgmfognbaaGreatDoor
set_option maxRecDepth 100000
set_option maxHeartbeats 8000000
open Go.RowKit Go.Deep
structure DW (w wr:World) (W0 c:Nat) (a0:Option Addr) (len cap N M B T:Nat) (x:SysIn):Prop where
 cu:Cur wr W0 c a0 len cap
 be:Below w.heap.size w wr
 sx:SysX wr B T x
 b2:Bx wr N (.slice none 0 0) (.slice none 0 0) (.slice none 0 0) (.slice none 0 0)
 b6:Bx wr M (.slice x.pa x.pn x.pc) (.slice x.sa x.sn x.sc) (.slice x.wa x.wn x.wc) (.slice x.ha x.hn x.hc)
 sz:w.heap.size<=N/\N<c/\c<B/\c<M/\T<=M
theorem DW.draw {w wr w':World} {W0 c len cap N M B T:Nat} {a0:Option Addr} {x:SysIn} (h:DW w wr W0 c a0 len cap N M B T x) (hc:Cur w' W0 c a0 len cap) (hg:wr.grownBy w' (some c)):DW w w' W0 c a0 len cap N M B T x:=
 ⟨hc,Below.grown h.be hg (by have:=h.be.size;exact this) (fun k hk=>by cases hk;have:=h.sz;omega),h.sx.keep hg.size fun b hb _ hl=>hg.block b hl (by have:=h.sz;simp;omega),h.b2.grown hg (by have:=h.sz;simp;omega),h.b6.grown hg (by have:=h.sz;simp;omega),h.sz⟩
theorem DW.set4 {w wr:World} {W0 c len cap N M B T:Nat} {a0:Option Addr} {x:SysIn} (h:DW w wr W0 c a0 len cap N M B T x) (u0 u1 u2 u3:Value):SysX ((((wr.setCell ⟨N,0,none⟩ u0).setCell ⟨N,1,none⟩ u1).setCell ⟨N,2,none⟩ u2).setCell ⟨N,3,none⟩ u3) B T x:=
 h.sx.keep (by simp) fun b hb _ _=>by
  have:=h.sz
  rw [zO _ _ _ _ (by show b≠N;omega),zO _ _ _ _ (by show b≠N;omega),zO _ _ _ _ (by show b≠N;omega),zO _ _ _ _ (by show b≠N;omega)]
structure DX (w wr:World) (W0 c:Nat) (a0:Option Addr) (len cap B T:Nat) (x:SysIn):Prop where
 cu:Cur wr W0 c a0 len cap
 sx:SysX wr B T x
 gr:w.grownBy wr (some c)
 lt:c<B
theorem DX.draw {w wr w':World} {W0 c:Nat} {a0:Option Addr} {len cap B T:Nat} {x:SysIn} (h:DX w wr W0 c a0 len cap B T x) (hc:Cur w' W0 c a0 len cap) (hg:wr.grownBy w' (some c)):DX w w' W0 c a0 len cap B T x:=
 ⟨hc,h.sx.keep hg.size fun b hb _ hl=>hg.block b hl (by have:=h.lt;simp;omega),h.gr.trans hg,h.lt⟩
theorem DX.below {w wr w':World} {W0 c:Nat} {a0:Option Addr} {len cap B T:Nat} {x:SysIn} (h:DX w wr W0 c a0 len cap B T x) (hb:Below wr.heap.size wr w'):DX w w' W0 c a0 len cap B T x:=
 ⟨h.cu.kept (zZ hb) (by simp) (fun k hk=>by cases hk),h.sx.keep hb.size fun b _ _ hl=>hb.block b hl,h.gr.andThen (zZ hb) (fun j hj=>by cases hj),h.lt⟩
theorem DX.alloc {w wr:World} {W0 c:Nat} {a0:Option Addr} {len cap B T:Nat} {x:SysIn} (h:DX w wr W0 c a0 len cap B T x) (o:Obj):DX w (wr.alloc o) W0 c a0 len cap B T x:=h.below (zQ _ _)
theorem DX.set {w wr:World} {W0 c:Nat} {a0:Option Addr} {len cap B T:Nat} {x:SysIn} (h:DX w wr W0 c a0 len cap B T x) {N:Nat} (hN:w.heap.size<=N) (hc:c≠N) (hT:N<B\/T<=N) (hW:W0<=N) (j:Nat) (u:Value):DX w (wr.setCell ⟨N,j,none⟩ u) W0 c a0 len cap B T x:=by
 have hg:wr.grownBy (wr.setCell ⟨N,j,none⟩ u) (some N):=zV (World.grownBy.refl _ _) (.inl rfl) u
 exact ⟨h.cu.kept hg (fun e=>hc (by simpa using e)) (fun k hk=>by cases hk;exact hW),h.sx.keep (by simp) fun b hb ht hl=>hg.block b hl (by simp;omega),h.gr.andThen hg (fun k hk=>by cases hk;exact .inl hN),h.lt⟩
theorem SysX.drew {w:World} {B T:Nat} {x:SysIn} (h:SysX w B T x):SysX w.drew B T x:=h.keep (Nat.le_refl _) fun _ _ _ _=>rfl
theorem DW.drew {w wr:World} {W0 c len cap N M B T:Nat} {a0:Option Addr} {x:SysIn} (h:DW w wr W0 c a0 len cap N M B T x):DW w wr.drew W0 c a0 len cap N M B T x:=h.draw h.cu.drew ⟨rfl,rfl,rfl,Nat.le_refl _,fun _ _ _=>rfl⟩
theorem DW.alloc {w wr:World} {W0 c len cap N M B T:Nat} {a0:Option Addr} {x:SysIn} (h:DW w wr W0 c a0 len cap N M B T x) (o:Obj):DW w (wr.alloc o) W0 c a0 len cap N M B T x:=h.draw (h.cu.alloc o) (World.grownBy_alloc _ _ _)
structure WJ (w wr:World) (X:Nat) (x:SysIn):Prop where
 g:SysG wr x
 bx:BoxC wr X (.slice x.pa x.pn x.pc) (.slice x.sa x.sn x.sc) (.slice x.wa x.wn x.wc) (.slice x.ha x.hn x.hc)
 be:Below w.heap.size w wr
theorem WJ.below {w wr w':World} {X:Nat} {x:SysIn} (h:WJ w wr X x) (hb:Below wr.heap.size wr w'):WJ w w' X x:=⟨h.g.below hb,h.bx.below hb,h.be.trans (hb.mono h.be.size)⟩
theorem WJ.lt {w wr:World} {X:Nat} {x:SysIn} (h:WJ w wr X x):X<wr.heap.size:=zJ wr _ h.bx.1
structure DE (w wr:World) (W0 c:Nat) (a0:Option Addr) (len cap B T N:Nat) (x:SysIn):Prop where
 dx:DX w wr W0 c a0 len cap B T x
 bx:BoxC wr N (.slice x.pa x.pn x.pc) (.slice x.sa x.sn x.sc) (.slice x.wa x.wn x.wc) (.slice x.ha x.hn x.hc)
 ne:c<N
theorem DE.draw {w wr w':World} {W0 c:Nat} {a0:Option Addr} {len cap B T N:Nat} {x:SysIn} (h:DE w wr W0 c a0 len cap B T N x) (hc:Cur w' W0 c a0 len cap) (hg:wr.grownBy w' (some c)):DE w w' W0 c a0 len cap B T N x:=by
 have hb:w'.heap[N]? = wr.heap[N]?:=hg.block N (zJ wr _ h.bx.1) (by have:=h.ne;simp;omega)
 exact ⟨h.dx.draw hc hg,⟨(zH hb).trans h.bx.1,(zH hb).trans h.bx.2.1,(zH hb).trans h.bx.2.2.1,(zH hb).trans h.bx.2.2.2⟩,h.ne⟩
theorem DE.alloc {w wr:World} {W0 c:Nat} {a0:Option Addr} {len cap B T N:Nat} {x:SysIn} (h:DE w wr W0 c a0 len cap B T N x) (o:Obj):DE w (wr.alloc o) W0 c a0 len cap B T N x:=h.draw (h.dx.cu.alloc o) (World.grownBy_alloc _ _ _)
theorem l7DrawEvent_any (W0 c len cap B T:Nat) (a0:Option Addr) (x:SysIn) (w:World) (hy:x.y.Sm) (hc:Cur w W0 c a0 len cap) (hX:SysX w B T x) (hB:c<B):
  Calls Tryz.prog 117 #[.pointer (some ⟨c,0,none⟩),x.v] w fun e w'=>∃ p i:Int,e=.returned (.tuple #[.int .i64 p,.int .i64 i])/\DX w w' W0 c a0 len cap B T x/\(-1<=p/\p<=16)/\(-1<=i/\i<=1000):=by
 have hpn:(x.pn:Int)<=16:=by
  have h:x.pn<=16:=hy.n.1
  omega
 have hhn:(x.hn:Int)<=16:=by
  have h:x.hn<=16:=hy.n.2.2.2
  omega
 have HL:Hid (∀ i,i<x.hn->x.hL i<=1000):=fun i hi=>hy.h i hi
 have D0:Hid (DE w (w.alloc (oQ4 x.pa x.pn x.pc x.sa x.sn x.sc x.wa x.wn x.wc x.ha x.hn x.hc)) W0 c a0 len cap B T w.heap.size x):=by
  have k0:DX w w W0 c a0 len cap B T x:=⟨hc,hX,World.grownBy.refl _ _,hB⟩
  exact ⟨k0.alloc _,BoxC.new w _ _ _ _ _,hc.lt⟩
 clear hc hX hy
 go_enter Tryz.func117,Tryz.ntmps117
 go_upto_region 1 with fail
 generalize w.alloc (oQ4 x.pa x.pn x.pc x.sa x.sn x.sc x.wa x.wn x.wc x.ha x.hn x.hc)=wA at *
 obtain ⟨z0,z1,z2,z3⟩:=D0.out.bx
 go_wp2_with fail
 clear z0 z1 z2 z3
 refine (l1Max_any (x.pn:Int) 1 wA).mono ?_
 rintro e w' ⟨m,rfl,⟨m1,m2,m3⟩,rfl⟩
 go_wp2_with fail
 refine (zY W0 c len cap a0 m _ D0.out.dx.cu (by omega) (by omega)).mono ?_
 rintro e w3 ⟨p,rfl,⟨p0,p1⟩,hc3,hg3⟩
 have D3:Hid (DE w w3 W0 c a0 len cap B T w.heap.size x):=D0.out.draw hc3 hg3
 have hp16:-1<=p/\p<=16:=by omega
 clear hc3 hg3 D0 m1 m2 m3 p0 p1
 go_wp2_with fail
 refine (l1Once_any W0 c len cap a0 20 w3 D3.out.dx.cu (by omega) (by omega)).mono ?_
 rintro e w4 ⟨t,rfl,hc4,hg4⟩
 have D4:Hid (DE w w4 W0 c a0 len cap B T w.heap.size x):=D3.out.draw hc4 hg4
 clear hc4 hg4 D3
 cases t with
 | true=>
  go_wp2_with fail
  refine (l1PickInt_of W0 c len cap w4.heap.size 2 2 a0 pickP _ (D4.out.dx.cu.alloc _) (by omega) (by omega) (by simp) (by have:=D4.out.dx.cu.lt;omega) (pickP_at w4)).mono ?_
  rintro e w5 ⟨i,hi,rfl,hc5,hg5⟩
  have D5:Hid (DE w w5 W0 c a0 len cap B T w.heap.size x):=(D4.out.alloc _).draw hc5 hg5
  clear hc5 hg5 D4 hp16
  have hv:=pickP_le i
  generalize pickP i=v at *
  obtain ⟨z0,z1,z2,z3⟩:=D5.out.bx
  go_wp2_with fail
  clear z0 z1 z2 z3
  refine (l1In_any v 0 ((x.hn:Int) - 1) w5).mono ?_
  rintro e w' ⟨rfl,hw⟩
  obtain rfl:=hw.symm
  clear hw
  by_cases hin:0<=v/\v<=(x.hn:Int) - 1
  ·have hb:inB v 0 ((x.hn:Int) - 1)=true:=by simp [inB,hin.1,hin.2]
   rw [hb]
   obtain ⟨P,rfl⟩:∃ P:Nat,v=P:=⟨(v).toNat,by omega⟩
   have hP:P<x.hn:=by omega
   obtain ⟨b,off,ea,cb⟩:=D5.out.dx.sx.self.h.at hP
   have cb:w5.cell? ⟨b,off+P,none⟩=some (.slice (x.hA P) (x.hL P) (x.hC P)):=cb
   have hk':(x.hL P:Int)<=1000:=by have:=HL.out P hP;omega
   have hP':(P:Int)<(x.hn:Int):=by omega
   obtain ⟨z0,z1,z2,z3⟩:=D5.out.bx
   rw [ea] at z3
   clear ea hb
   go_upto_region 7 with fail
   clear z0 z1 z2 z3 cb
   go_wp2_with fail
   refine (l1Below_wide W0 c len cap a0 ((x.hL P:Int)+1) w5 D5.out.dx.cu (by omega) (by omega)).mono ?_
   rintro e w7 ⟨k,rfl,⟨k0,k1⟩,hc7,hg7⟩
   have D7:Hid (DE w w7 W0 c a0 len cap B T w.heap.size x):=D5.out.draw hc7 hg7
   clear hc7 hg7 D5
   go_wp2_with fail
   refine (zY W0 c len cap a0 20 w7 D7.out.dx.cu (by omega) (by omega)).mono ?_
   rintro e w8 ⟨r,rfl,⟨r0,r1⟩,hc8,hg8⟩
   have D8:Hid (DE w w8 W0 c a0 len cap B T w.heap.size x):=D7.out.draw hc8 hg8
   clear hc8 hg8 D7
   have hdv:0<=r.tdiv 19/\r.tdiv 19<=1:=by
    rw [Int.tdiv_eq_ediv_of_nonneg r0]
    omega
   go_wp2
   refine bodyPost_ret (v:=.tuple #[.int .i64 (P:Int),.int .i64 (k - r.tdiv 19)]) (by simp [results,Tryz.results117,go_sem]) rfl ⟨(P:Int),k - r.tdiv 19,rfl,D8.out.dx,by omega,by omega⟩
  ·have hb:inB v 0 ((x.hn:Int) - 1)=false:=by
    simp only [inB,decide_eq_false_iff_not]
    omega
   rw [hb]
   go_upto_region 7 with fail
   go_wp2_with fail
   refine (l1Below_wide W0 c len cap a0 1 w5 D5.out.dx.cu (by omega) (by omega)).mono ?_
   rintro e w7 ⟨k,rfl,⟨k0,k1⟩,hc7,hg7⟩
   have D7:Hid (DE w w7 W0 c a0 len cap B T w.heap.size x):=D5.out.draw hc7 hg7
   clear hc7 hg7 D5
   go_wp2_with fail
   refine (zY W0 c len cap a0 20 w7 D7.out.dx.cu (by omega) (by omega)).mono ?_
   rintro e w8 ⟨r,rfl,⟨r0,r1⟩,hc8,hg8⟩
   have D8:Hid (DE w w8 W0 c a0 len cap B T w.heap.size x):=D7.out.draw hc8 hg8
   clear hc8 hg8 D7
   have hdv:0<=r.tdiv 19/\r.tdiv 19<=1:=by
    rw [Int.tdiv_eq_ediv_of_nonneg r0]
    omega
   go_wp2
   refine bodyPost_ret (v:=.tuple #[.int .i64 v,.int .i64 (k - r.tdiv 19)]) (by simp [results,Tryz.results117,go_sem]) rfl ⟨v,k - r.tdiv 19,rfl,D8.out.dx,by omega,by omega⟩
 | false=>
  obtain ⟨z0,z1,z2,z3⟩:=D4.out.bx
  go_wp2_with fail
  clear z0 z1 z2 z3
  refine (l1In_any p 0 ((x.hn:Int) - 1) w4).mono ?_
  rintro e w' ⟨rfl,hw⟩
  obtain rfl:=hw.symm
  clear hw
  by_cases hin:0<=p/\p<=(x.hn:Int) - 1
  ·have hb:inB p 0 ((x.hn:Int) - 1)=true:=by simp [inB,hin.1,hin.2]
   rw [hb]
   obtain ⟨P,rfl⟩:∃ P:Nat,p=P:=⟨(p).toNat,by omega⟩
   have hP:P<x.hn:=by omega
   obtain ⟨b,off,ea,cb⟩:=D4.out.dx.sx.self.h.at hP
   have cb:w4.cell? ⟨b,off+P,none⟩=some (.slice (x.hA P) (x.hL P) (x.hC P)):=cb
   have hk':(x.hL P:Int)<=1000:=by have:=HL.out P hP;omega
   have hP':(P:Int)<(x.hn:Int):=by omega
   obtain ⟨z0,z1,z2,z3⟩:=D4.out.bx
   rw [ea] at z3
   clear ea hb
   go_upto_region 7 with fail
   clear z0 z1 z2 z3 cb
   go_wp2_with fail
   refine (l1Below_wide W0 c len cap a0 ((x.hL P:Int)+1) w4 D4.out.dx.cu (by omega) (by omega)).mono ?_
   rintro e w7 ⟨k,rfl,⟨k0,k1⟩,hc7,hg7⟩
   have D7:Hid (DE w w7 W0 c a0 len cap B T w.heap.size x):=D4.out.draw hc7 hg7
   clear hc7 hg7 D4
   go_wp2_with fail
   refine (zY W0 c len cap a0 20 w7 D7.out.dx.cu (by omega) (by omega)).mono ?_
   rintro e w8 ⟨r,rfl,⟨r0,r1⟩,hc8,hg8⟩
   have D8:Hid (DE w w8 W0 c a0 len cap B T w.heap.size x):=D7.out.draw hc8 hg8
   clear hc8 hg8 D7
   have hdv:0<=r.tdiv 19/\r.tdiv 19<=1:=by
    rw [Int.tdiv_eq_ediv_of_nonneg r0]
    omega
   go_wp2
   refine bodyPost_ret (v:=.tuple #[.int .i64 (P:Int),.int .i64 (k - r.tdiv 19)]) (by simp [results,Tryz.results117,go_sem]) rfl ⟨(P:Int),k - r.tdiv 19,rfl,D8.out.dx,by omega,by omega⟩
  ·have hb:inB p 0 ((x.hn:Int) - 1)=false:=by
    simp only [inB,decide_eq_false_iff_not]
    omega
   rw [hb]
   go_upto_region 7 with fail
   go_wp2_with fail
   refine (l1Below_wide W0 c len cap a0 1 w4 D4.out.dx.cu (by omega) (by omega)).mono ?_
   rintro e w7 ⟨k,rfl,⟨k0,k1⟩,hc7,hg7⟩
   have D7:Hid (DE w w7 W0 c a0 len cap B T w.heap.size x):=D4.out.draw hc7 hg7
   clear hc7 hg7 D4
   go_wp2_with fail
   refine (zY W0 c len cap a0 20 w7 D7.out.dx.cu (by omega) (by omega)).mono ?_
   rintro e w8 ⟨r,rfl,⟨r0,r1⟩,hc8,hg8⟩
   have D8:Hid (DE w w8 W0 c a0 len cap B T w.heap.size x):=D7.out.draw hc8 hg8
   clear hc8 hg8 D7
   have hdv:0<=r.tdiv 19/\r.tdiv 19<=1:=by
    rw [Int.tdiv_eq_ediv_of_nonneg r0]
    omega
   go_wp2
   refine bodyPost_ret (v:=.tuple #[.int .i64 p,.int .i64 (k - r.tdiv 19)]) (by simp [results,Tryz.results117,go_sem]) rfl ⟨p,k - r.tdiv 19,rfl,D8.out.dx,by omega,by omega⟩
def Drw5 (w:World) (e:Ending) (w':World):Prop:=∃ (x:SysIn) (p i q j:Int) (B T:Nat),e=.returned (.tuple #[x.v,.int .i64 p,.int .i64 i,.int .i64 q,.int .i64 j])/\x.y.Sm/\SysX w' B T x/\w.heap.size<=B/\T<=w'.heap.size/\Below w.heap.size w w'
def Drw3 (w:World) (e:Ending) (w':World):Prop:=∃ (x:SysIn) (p i:Int) (B T:Nat),e=.returned (.tuple #[x.v,.int .i64 p,.int .i64 i])/\x.y.Sm/\SysX w' B T x/\w.heap.size<=B/\T<=w'.heap.size/\Below w.heap.size w w'
theorem l7DrawTwo_any (W0 len cap:Nat) (a0:Option Addr) (w:World) (hB:BytesAt w W0 a0 len) (hW:W0<=w.heap.size) (ln:len<=1048576):
  Calls Tryz.prog 65 #[.slice a0 len cap] w (Drw5 w):=by
 have C0:Hid (BytesAt (w.alloc (zQ4)) W0 a0 len/\W0<=(w.alloc (zQ4)).heap.size/\Below w.heap.size w (w.alloc (zQ4))/\Bx (w.alloc (zQ4)) w.heap.size (.slice none 0 0) (.slice none 0 0) (.slice none 0 0) (.slice none 0 0)/\(w.alloc (zQ4)).heap.size=w.heap.size+1):=⟨hB.kept (fun k hk=>(zQ w (zQ4)).block k (by omega)),by simp;omega,zQ _ _,Bx.new w _ _ _ _ _,by simp⟩
 clear hB
 go_enter Tryz.func65,Tryz.ntmps65
 go_wp2_with fail
 generalize w.alloc (zQ4)=W2 at *
 refine (l1New_any W0 len cap a0 W2 C0.out.1 C0.out.2.1 ln).mono ?_
 rintro e w1 ⟨rfl,hc1,hg1⟩
 have C1:Hid (Cur w1 W0 W2.heap.size a0 len cap/\Below w.heap.size w w1/\Bx w1 w.heap.size (.slice none 0 0) (.slice none 0 0) (.slice none 0 0) (.slice none 0 0)/\W2.heap.size=w.heap.size+1/\W2.heap.size<w1.heap.size):=⟨hc1,C0.out.2.2.1.trans ((below_of_grown hg1).mono C0.out.2.2.1.size),C0.out.2.2.2.1.below (below_of_grown hg1),C0.out.2.2.2.2,hc1.lt⟩
 clear hc1 hg1 C0
 generalize W2.heap.size=c at *
 go_wp2_with fail
 refine (l6Draw_any W0 c len cap a0 w1 C1.out.1).mono ?_
 rintro e w2 ⟨x,B,T,rfl,hm,hX,hc2,hg2,hcB,hT⟩
 have DA:Hid (DW w (w2.alloc (oQ4 x.pa x.pn x.pc x.sa x.sn x.sc x.wa x.wn x.wc x.ha x.hn x.hc)) W0 c a0 len cap w.heap.size w2.heap.size B T x):=by
  have hs:=hg2.size
  have h1:=C1.out.2.2.2.1
  have h2:=C1.out.2.2.2.2
  refine ⟨hc2.alloc _,(Below.grown C1.out.2.1 hg2 C1.out.2.1.size (fun k hk=>by cases hk;omega)).trans ((zQ _ _).mono (by have:=C1.out.2.1.size;omega)),hX.keep (by simp) fun b _ _ hl=>(zQ w2 _).block b hl,(C1.out.2.2.1.grown hg2 (by simp;omega)).below (zQ _ _),Bx.new _ _ _ _ _ _,Nat.le_refl _,by omega,hcB,by omega,hT⟩
 have HM:Hid x.y.Sm:=hm
 clear hX hc2 hg2 hcB hT C1 hm
 go_upto_region 3 with fail
 generalize w2.alloc (oQ4 x.pa x.pn x.pc x.sa x.sn x.sc x.wa x.wn x.wc x.ha x.hn x.hc)=wA at *
 generalize w2.heap.size=M at *
 obtain ⟨⟨z0,z1,z2,z3⟩,-⟩:=DA.out.b6
 go_wp2_with fail
 clear z0 z1 z2 z3
 refine (l7DrawEvent_any W0 c len cap B T a0 x wA HM.out DA.out.cu DA.out.sx DA.out.sz.2.2.1).mono ?_
 rintro e w3 ⟨p,i,rfl,d,-,-⟩
 have D3:Hid (DW w w3 W0 c a0 len cap w.heap.size M B T x):=DA.out.draw d.cu d.gr
 clear d DA
 obtain ⟨⟨z0,z1,z2,z3⟩,-⟩:=D3.out.b6
 go_wp2_with fail
 clear z0 z1 z2 z3
 refine (l7DrawEvent_any W0 c len cap B T a0 x w3 HM.out D3.out.cu D3.out.sx D3.out.sz.2.2.1).mono ?_
 rintro e w4 ⟨q,j,rfl,d,-,-⟩
 have D4:Hid (DW w w4 W0 c a0 len cap w.heap.size M B T x):=D3.out.draw d.cu d.gr
 clear d D3
 obtain ⟨⟨x0,x1,x2,x3⟩,xf⟩:=D4.out.b2
 obtain ⟨⟨z0,z1,z2,z3⟩,-⟩:=D4.out.b6
 go_wp2
 refine bodyPost_ret (v:=.tuple #[x.v,.int .i64 p,.int .i64 i,.int .i64 q,.int .i64 j]) (by simp [results,Tryz.results65,go_sem,x0,x1,x2,x3]) rfl ⟨x,p,i,q,j,B,T,rfl,HM.out,?_,?_,?_,?_⟩
 ·exact D4.out.set4 _ _ _ _
 ·have:=D4.out.sz
  omega
 ·have:=D4.out.sz
  have:=D4.out.b6.lt
  simp
  omega
 ·exact (((D4.out.be.setCell (Nat.le_refl _) _).setCell (Nat.le_refl _) _).setCell (Nat.le_refl _) _).setCell (Nat.le_refl _) _
theorem l7DrawOne_any (W0 len cap:Nat) (a0:Option Addr) (w:World) (hB:BytesAt w W0 a0 len) (hW:W0<=w.heap.size) (ln:len<=1048576):
  Calls Tryz.prog 71 #[.slice a0 len cap] w (Drw3 w):=by
 have C0:Hid (BytesAt (w.alloc (zQ4)) W0 a0 len/\W0<=(w.alloc (zQ4)).heap.size/\Below w.heap.size w (w.alloc (zQ4))/\Bx (w.alloc (zQ4)) w.heap.size (.slice none 0 0) (.slice none 0 0) (.slice none 0 0) (.slice none 0 0)/\(w.alloc (zQ4)).heap.size=w.heap.size+1):=⟨hB.kept (fun k hk=>(zQ w (zQ4)).block k (by omega)),by simp;omega,zQ _ _,Bx.new w _ _ _ _ _,by simp⟩
 clear hB
 go_enter Tryz.func71,Tryz.ntmps71
 go_wp2_with fail
 generalize w.alloc (zQ4)=W2 at *
 refine (l1New_any W0 len cap a0 W2 C0.out.1 C0.out.2.1 ln).mono ?_
 rintro e w1 ⟨rfl,hc1,hg1⟩
 have C1:Hid (Cur w1 W0 W2.heap.size a0 len cap/\Below w.heap.size w w1/\Bx w1 w.heap.size (.slice none 0 0) (.slice none 0 0) (.slice none 0 0) (.slice none 0 0)/\W2.heap.size=w.heap.size+1/\W2.heap.size<w1.heap.size):=⟨hc1,C0.out.2.2.1.trans ((below_of_grown hg1).mono C0.out.2.2.1.size),C0.out.2.2.2.1.below (below_of_grown hg1),C0.out.2.2.2.2,hc1.lt⟩
 clear hc1 hg1 C0
 generalize W2.heap.size=c at *
 go_wp2_with fail
 refine (l6Draw_any W0 c len cap a0 w1 C1.out.1).mono ?_
 rintro e w2 ⟨x,B,T,rfl,hm,hX,hc2,hg2,hcB,hT⟩
 have DA:Hid (DW w (w2.alloc (oQ4 x.pa x.pn x.pc x.sa x.sn x.sc x.wa x.wn x.wc x.ha x.hn x.hc)) W0 c a0 len cap w.heap.size w2.heap.size B T x):=by
  have hs:=hg2.size
  have h1:=C1.out.2.2.2.1
  have h2:=C1.out.2.2.2.2
  refine ⟨hc2.alloc _,(Below.grown C1.out.2.1 hg2 C1.out.2.1.size (fun k hk=>by cases hk;omega)).trans ((zQ _ _).mono (by have:=C1.out.2.1.size;omega)),hX.keep (by simp) fun b _ _ hl=>(zQ w2 _).block b hl,(C1.out.2.2.1.grown hg2 (by simp;omega)).below (zQ _ _),Bx.new _ _ _ _ _ _,Nat.le_refl _,by omega,hcB,by omega,hT⟩
 have HM:Hid x.y.Sm:=hm
 clear hX hc2 hg2 hcB hT C1 hm
 go_upto_region 3 with fail
 generalize w2.alloc (oQ4 x.pa x.pn x.pc x.sa x.sn x.sc x.wa x.wn x.wc x.ha x.hn x.hc)=wA at *
 generalize w2.heap.size=M at *
 obtain ⟨⟨z0,z1,z2,z3⟩,-⟩:=DA.out.b6
 go_wp2_with fail
 clear z0 z1 z2 z3
 refine (l7DrawEvent_any W0 c len cap B T a0 x wA HM.out DA.out.cu DA.out.sx DA.out.sz.2.2.1).mono ?_
 rintro e w3 ⟨p,i,rfl,d,-,-⟩
 have D3:Hid (DW w w3 W0 c a0 len cap w.heap.size M B T x):=DA.out.draw d.cu d.gr
 clear d DA
 obtain ⟨⟨x0,x1,x2,x3⟩,xf⟩:=D3.out.b2
 obtain ⟨⟨z0,z1,z2,z3⟩,-⟩:=D3.out.b6
 go_wp2
 refine bodyPost_ret (v:=.tuple #[x.v,.int .i64 p,.int .i64 i]) (by simp [results,Tryz.results71,go_sem,x0,x1,x2,x3]) rfl ⟨x,p,i,B,T,rfl,HM.out,?_,?_,?_,?_⟩
 ·exact D3.out.set4 _ _ _ _
 ·have:=D3.out.sz
  omega
 ·have:=D3.out.sz
  have:=D3.out.b6.lt
  simp
  omega
 ·exact (((D3.out.be.setCell (Nat.le_refl _) _).setCell (Nat.le_refl _) _).setCell (Nat.le_refl _) _).setCell (Nat.le_refl _) _
theorem DrawHangs_any (W0 len cap:Nat) (a0:Option Addr) (w:World) (hB:BytesAt w W0 a0 len) (hW:W0<=w.heap.size) (ln:len<=1048576):
  Calls Tryz.prog 22 #[.slice a0 len cap] w (Drw5 w):=by
 have C0:Hid (BytesAt (w.alloc (zQ4)) W0 a0 len/\W0<=(w.alloc (zQ4)).heap.size/\Below w.heap.size w (w.alloc (zQ4))/\Bx (w.alloc (zQ4)) w.heap.size (.slice none 0 0) (.slice none 0 0) (.slice none 0 0) (.slice none 0 0)/\(w.alloc (zQ4)).heap.size=w.heap.size+1):=⟨hB.kept (fun k hk=>(zQ w (zQ4)).block k (by omega)),by simp;omega,zQ _ _,Bx.new w _ _ _ _ _,by simp⟩
 clear hB
 go_enter Tryz.func22,Tryz.ntmps22
 go_wp2_with fail
 generalize w.alloc (zQ4)=W2 at *
 refine (l7DrawTwo_any W0 len cap a0 W2 C0.out.1 C0.out.2.1 ln).mono ?_
 rintro e w2 ⟨x,p,i,q,j,B,T,rfl,hm,hX,hBl,hT,hb⟩
 have HM:Hid x.y.Sm:=hm
 have F:Hid (SysX (w2.alloc (oQ4 x.pa x.pn x.pc x.sa x.sn x.sc x.wa x.wn x.wc x.ha x.hn x.hc)) B T x/\Bx (w2.alloc (oQ4 x.pa x.pn x.pc x.sa x.sn x.sc x.wa x.wn x.wc x.ha x.hn x.hc)) w.heap.size (.slice none 0 0) (.slice none 0 0) (.slice none 0 0) (.slice none 0 0)/\Bx (w2.alloc (oQ4 x.pa x.pn x.pc x.sa x.sn x.sc x.wa x.wn x.wc x.ha x.hn x.hc)) w2.heap.size (.slice x.pa x.pn x.pc) (.slice x.sa x.sn x.sc) (.slice x.wa x.wn x.wc) (.slice x.ha x.hn x.hc)/\Below w.heap.size w (w2.alloc (oQ4 x.pa x.pn x.pc x.sa x.sn x.sc x.wa x.wn x.wc x.ha x.hn x.hc))/\w.heap.size<B/\T<=w2.heap.size):=by
  have h1:=C0.out.2.2.2.2
  have h2:=hb.size
  exact ⟨hX.keep (by simp) fun b _ _ hl=>(zQ w2 _).block b hl,(C0.out.2.2.2.1.below hb).below (zQ _ _),Bx.new _ _ _ _ _ _,(C0.out.2.2.1.trans (hb.mono (by omega))).trans ((zQ _ _).mono (by omega)),by omega,hT⟩
 clear hX hBl hT hb hm C0
 go_upto_region 2 with fail
 generalize w2.alloc (oQ4 x.pa x.pn x.pc x.sa x.sn x.sc x.wa x.wn x.wc x.ha x.hn x.hc)=wA at *
 generalize w2.heap.size=M at *
 obtain ⟨⟨x0,x1,x2,x3⟩,xf⟩:=F.out.2.1
 obtain ⟨⟨z0,z1,z2,z3⟩,-⟩:=F.out.2.2.1
 go_wp2
 refine bodyPost_ret (v:=.tuple #[x.v,.int .i64 p,.int .i64 i,.int .i64 q,.int .i64 j]) (by simp [results,Tryz.results22,go_sem,x0,x1,x2,x3]) rfl ⟨x,p,i,q,j,B,T,rfl,HM.out,?_,?_,?_,?_⟩
 ·exact F.out.1.keep (by simp) fun b hb _ _=>by
   have:=F.out.2.2.2.2.1
   rw [zO _ _ _ _ (by show b≠w.heap.size;omega),zO _ _ _ _ (by show b≠w.heap.size;omega),zO _ _ _ _ (by show b≠w.heap.size;omega),zO _ _ _ _ (by show b≠w.heap.size;omega)]
 ·exact Nat.le_of_lt F.out.2.2.2.2.1
 ·have:=F.out.2.2.2.2.2
  have:=F.out.2.2.1.lt
  simp
  omega
 ·exact (((F.out.2.2.2.1.setCell (Nat.le_refl _) _).setCell (Nat.le_refl _) _).setCell (Nat.le_refl _) _).setCell (Nat.le_refl _) _
theorem DrawClock_any (W0 len cap:Nat) (a0:Option Addr) (w:World) (hB:BytesAt w W0 a0 len) (hW:W0<=w.heap.size) (ln:len<=1048576):
  Calls Tryz.prog 27 #[.slice a0 len cap] w (Drw3 w):=by
 have C0:Hid (BytesAt (w.alloc (zQ4)) W0 a0 len/\W0<=(w.alloc (zQ4)).heap.size/\Below w.heap.size w (w.alloc (zQ4))/\Bx (w.alloc (zQ4)) w.heap.size (.slice none 0 0) (.slice none 0 0) (.slice none 0 0) (.slice none 0 0)/\(w.alloc (zQ4)).heap.size=w.heap.size+1):=⟨hB.kept (fun k hk=>(zQ w (zQ4)).block k (by omega)),by simp;omega,zQ _ _,Bx.new w _ _ _ _ _,by simp⟩
 clear hB
 go_enter Tryz.func27,Tryz.ntmps27
 go_wp2_with fail
 generalize w.alloc (zQ4)=W2 at *
 refine (l7DrawOne_any W0 len cap a0 W2 C0.out.1 C0.out.2.1 ln).mono ?_
 rintro e w2 ⟨x,p,i,B,T,rfl,hm,hX,hBl,hT,hb⟩
 have HM:Hid x.y.Sm:=hm
 have F:Hid (SysX (w2.alloc (oQ4 x.pa x.pn x.pc x.sa x.sn x.sc x.wa x.wn x.wc x.ha x.hn x.hc)) B T x/\Bx (w2.alloc (oQ4 x.pa x.pn x.pc x.sa x.sn x.sc x.wa x.wn x.wc x.ha x.hn x.hc)) w.heap.size (.slice none 0 0) (.slice none 0 0) (.slice none 0 0) (.slice none 0 0)/\Bx (w2.alloc (oQ4 x.pa x.pn x.pc x.sa x.sn x.sc x.wa x.wn x.wc x.ha x.hn x.hc)) w2.heap.size (.slice x.pa x.pn x.pc) (.slice x.sa x.sn x.sc) (.slice x.wa x.wn x.wc) (.slice x.ha x.hn x.hc)/\Below w.heap.size w (w2.alloc (oQ4 x.pa x.pn x.pc x.sa x.sn x.sc x.wa x.wn x.wc x.ha x.hn x.hc))/\w.heap.size<B/\T<=w2.heap.size):=by
  have h1:=C0.out.2.2.2.2
  have h2:=hb.size
  exact ⟨hX.keep (by simp) fun b _ _ hl=>(zQ w2 _).block b hl,(C0.out.2.2.2.1.below hb).below (zQ _ _),Bx.new _ _ _ _ _ _,(C0.out.2.2.1.trans (hb.mono (by omega))).trans ((zQ _ _).mono (by omega)),by omega,hT⟩
 clear hX hBl hT hb hm C0
 go_upto_region 2 with fail
 generalize w2.alloc (oQ4 x.pa x.pn x.pc x.sa x.sn x.sc x.wa x.wn x.wc x.ha x.hn x.hc)=wA at *
 generalize w2.heap.size=M at *
 obtain ⟨⟨x0,x1,x2,x3⟩,xf⟩:=F.out.2.1
 obtain ⟨⟨z0,z1,z2,z3⟩,-⟩:=F.out.2.2.1
 go_wp2
 refine bodyPost_ret (v:=.tuple #[x.v,.int .i64 p,.int .i64 i]) (by simp [results,Tryz.results27,go_sem,x0,x1,x2,x3]) rfl ⟨x,p,i,B,T,rfl,HM.out,?_,?_,?_,?_⟩
 ·exact F.out.1.keep (by simp) fun b hb _ _=>by
   have:=F.out.2.2.2.2.1
   rw [zO _ _ _ _ (by show b≠w.heap.size;omega),zO _ _ _ _ (by show b≠w.heap.size;omega),zO _ _ _ _ (by show b≠w.heap.size;omega),zO _ _ _ _ (by show b≠w.heap.size;omega)]
 ·exact Nat.le_of_lt F.out.2.2.2.2.1
 ·have:=F.out.2.2.2.2.2
  have:=F.out.2.2.1.lt
  simp
  omega
 ·exact (((F.out.2.2.2.1.setCell (Nat.le_refl _) _).setCell (Nat.le_refl _) _).setCell (Nat.le_refl _) _).setCell (Nat.le_refl _) _
