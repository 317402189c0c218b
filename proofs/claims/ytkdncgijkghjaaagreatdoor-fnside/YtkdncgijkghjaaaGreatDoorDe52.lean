/- Proved: whatever bytes are drawn by, of two drawn events that are two and are there just one of these is so: the one hangs on the other, the other on the one, or they are side by side; else none is; and Side does not ask which one comes first. Nothing is written into what was handed in. One condition, tied to the program's text: errors.errorType holds what its text lays. -/
import Derived.Test.YtkdncgijkghjaaaGreatDoorDe0
import Derived.Test.YtkdncgijkghjaaaGreatDoorDe47
import Derived.Test.YtkdncgijkghjaaaGreatDoorDe42
import Derived.Test.YtkdncgijkghjaaaGreatDoorDe50
import Derived.Test.YtkdncgijkghjaaaGreatDoorDe51
import Derived.Deep.Cut
import Derived.Lib.QuietBelow
import Derived.BigRegion
import Derived.BigQuiet
import Derived.Test.YtkdncgijkghjaaaGreatDoorCards
import Derived.SevenTiedAt
namespace Go.Proofs.YtkdncgijkghjaaaGreatDoor
set_option maxRecDepth 100000
set_option maxHeartbeats 8000000
open Go.RowKit Go.Deep
structure DE (w wr:World) (W0 c:Nat) (a0:Option Addr) (len cap B T N:Nat) (x:SysIn):Prop where
 dx:DX w wr W0 c a0 len cap B T x
 bx:BoxC wr N (.slice x.pa x.pn x.pc) (.slice x.sa x.sn x.sc) (.slice x.wa x.wn x.wc) (.slice x.ha x.hn x.hc)
 ne:c<N
theorem DE.draw {w wr w':World} {W0 c:Nat} {a0:Option Addr} {len cap B T N:Nat} {x:SysIn} (h:DE w wr W0 c a0 len cap B T N x) (hc:Cur w' W0 c a0 len cap) (hg:wr.grownBy w' (some c)):DE w w' W0 c a0 len cap B T N x:=by
 have hb:w'.heap[N]? = wr.heap[N]?:=hg.block N (zJ wr _ h.bx.1) (by have:=h.ne;simp;omega)
 exact ⟨h.dx.draw hc hg,⟨(zH hb).trans h.bx.1,(zH hb).trans h.bx.2.1,(zH hb).trans h.bx.2.2.1,(zH hb).trans h.bx.2.2.2⟩,h.ne⟩
theorem DE.alloc {w wr:World} {W0 c:Nat} {a0:Option Addr} {len cap B T N:Nat} {x:SysIn} (h:DE w wr W0 c a0 len cap B T N x) (o:Obj):DE w (wr.alloc o) W0 c a0 len cap B T N x:=h.draw (h.dx.cu.alloc o) (World.grownBy_alloc _ _ _)
theorem l7DrawEvent_any (W0 c len cap B T:Nat) (a0:Option Addr) (x:SysIn) (w:World) (hy:x.y.Sm) (hc:Cur w W0 c a0 len cap) (hX:SysX w B T x) (hB:c<B):
  Calls Tryz.prog 53 #[.pointer (some ⟨c,0,none⟩),x.v] w fun e w'=>∃ p i:Int,e=.returned (.tuple #[.int .i64 p,.int .i64 i])/\DX w w' W0 c a0 len cap B T x/\(-1<=p/\p<=16)/\(-1<=i/\i<=1000):=by
 have hpn:(x.pn:Int)<=16:=by
  have h:x.pn<=16:=hy.n.1
  omega
 have hhn:(x.hn:Int)<=16:=by
  have h:x.hn<=16:=hy.n.2.2.2
  omega
 have HL:Hid (∀ i,i<x.hn->x.hL i<=1000):=fun i hi=>hy.h i hi
 have D0:Hid (DE w (w.alloc (oQ4 x.pa x.pn x.pc x.sa x.sn x.sc x.wa x.wn x.wc x.ha x.hn x.hc)) W0 c a0 len cap B T w.heap.size x):=by
  have k0:DX w w W0 c a0 len cap B T x:=⟨hc,hX,World.grownBy.refl _ _,hB⟩
  exact ⟨k0.alloc _,BoxC.new w _ _ _ _ _,hc.lt⟩
 clear hc hX hy
 go_enter Tryz.func53,Tryz.ntmps53
 go_upto_region 1 with fail
 generalize w.alloc (oQ4 x.pa x.pn x.pc x.sa x.sn x.sc x.wa x.wn x.wc x.ha x.hn x.hc)=wA at *
 obtain ⟨z0,z1,z2,z3⟩:=D0.out.bx
 go_wp2_with fail
 clear z0 z1 z2 z3
 refine (l1Max_any (x.pn:Int) 1 wA).mono ?_
 rintro e w' ⟨m,rfl,⟨m1,m2,m3⟩,rfl⟩
 go_wp2_with fail
 refine (zY W0 c len cap a0 m _ D0.out.dx.cu (by omega) (by omega)).mono ?_
 rintro e w3 ⟨p,rfl,⟨p0,p1⟩,hc3,hg3⟩
 have D3:Hid (DE w w3 W0 c a0 len cap B T w.heap.size x):=D0.out.draw hc3 hg3
 have hp16:-1<=p/\p<=16:=by omega
 clear hc3 hg3 D0 m1 m2 m3 p0 p1
 go_wp2_with fail
 refine (l1Once_any W0 c len cap a0 20 w3 D3.out.dx.cu (by omega) (by omega)).mono ?_
 rintro e w4 ⟨t,rfl,hc4,hg4⟩
 have D4:Hid (DE w w4 W0 c a0 len cap B T w.heap.size x):=D3.out.draw hc4 hg4
 clear hc4 hg4 D3
 cases t with
 | true=>
  go_wp2_with fail
  refine (l1PickInt_of W0 c len cap w4.heap.size 2 2 a0 pickP _ (D4.out.dx.cu.alloc _) (by omega) (by omega) (by simp) (by have:=D4.out.dx.cu.lt;omega) (pickP_at w4)).mono ?_
  rintro e w5 ⟨i,hi,rfl,hc5,hg5⟩
  have D5:Hid (DE w w5 W0 c a0 len cap B T w.heap.size x):=(D4.out.alloc _).draw hc5 hg5
  clear hc5 hg5 D4 hp16
  have hv:=pickP_le i
  generalize pickP i=v at *
  obtain ⟨z0,z1,z2,z3⟩:=D5.out.bx
  go_wp2_with fail
  clear z0 z1 z2 z3
  refine (l1In_any v 0 ((x.hn:Int) - 1) w5).mono ?_
  rintro e w' ⟨rfl,hw⟩
  obtain rfl:=hw.symm
  clear hw
  by_cases hin:0<=v/\v<=(x.hn:Int) - 1
  ·have hb:inB v 0 ((x.hn:Int) - 1)=true:=by simp [inB,hin.1,hin.2]
   rw [hb]
   obtain ⟨P,rfl⟩:∃ P:Nat,v=P:=⟨(v).toNat,by omega⟩
   have hP:P<x.hn:=by omega
   obtain ⟨b,off,ea,cb⟩:=D5.out.dx.sx.self.h.at hP
   have cb:w5.cell? ⟨b,off+P,none⟩=some (.slice (x.hA P) (x.hL P) (x.hC P)):=cb
   have hk':(x.hL P:Int)<=1000:=by have:=HL.out P hP;omega
   have hP':(P:Int)<(x.hn:Int):=by omega
   obtain ⟨z0,z1,z2,z3⟩:=D5.out.bx
   rw [ea] at z3
   clear ea hb
   go_upto_region 7 with fail
   clear z0 z1 z2 z3 cb
   go_wp2_with fail
   refine (l1Below_wide W0 c len cap a0 ((x.hL P:Int)+1) w5 D5.out.dx.cu (by omega) (by omega)).mono ?_
   rintro e w7 ⟨k,rfl,⟨k0,k1⟩,hc7,hg7⟩
   have D7:Hid (DE w w7 W0 c a0 len cap B T w.heap.size x):=D5.out.draw hc7 hg7
   clear hc7 hg7 D5
   go_wp2_with fail
   refine (zY W0 c len cap a0 20 w7 D7.out.dx.cu (by omega) (by omega)).mono ?_
   rintro e w8 ⟨r,rfl,⟨r0,r1⟩,hc8,hg8⟩
   have D8:Hid (DE w w8 W0 c a0 len cap B T w.heap.size x):=D7.out.draw hc8 hg8
   clear hc8 hg8 D7
   have hdv:0<=r.tdiv 19/\r.tdiv 19<=1:=by
    rw [Int.tdiv_eq_ediv_of_nonneg r0]
    omega
   go_wp2
   refine bodyPost_ret (v:=.tuple #[.int .i64 (P:Int),.int .i64 (k - r.tdiv 19)]) (by simp [results,Tryz.results53,go_sem]) rfl ⟨(P:Int),k - r.tdiv 19,rfl,D8.out.dx,by omega,by omega⟩
  ·have hb:inB v 0 ((x.hn:Int) - 1)=false:=by
    simp only [inB,decide_eq_false_iff_not]
    omega
   rw [hb]
   go_upto_region 7 with fail
   go_wp2_with fail
   refine (l1Below_wide W0 c len cap a0 1 w5 D5.out.dx.cu (by omega) (by omega)).mono ?_
   rintro e w7 ⟨k,rfl,⟨k0,k1⟩,hc7,hg7⟩
   have D7:Hid (DE w w7 W0 c a0 len cap B T w.heap.size x):=D5.out.draw hc7 hg7
   clear hc7 hg7 D5
   go_wp2_with fail
   refine (zY W0 c len cap a0 20 w7 D7.out.dx.cu (by omega) (by omega)).mono ?_
   rintro e w8 ⟨r,rfl,⟨r0,r1⟩,hc8,hg8⟩
   have D8:Hid (DE w w8 W0 c a0 len cap B T w.heap.size x):=D7.out.draw hc8 hg8
   clear hc8 hg8 D7
   have hdv:0<=r.tdiv 19/\r.tdiv 19<=1:=by
    rw [Int.tdiv_eq_ediv_of_nonneg r0]
    omega
   go_wp2
   refine bodyPost_ret (v:=.tuple #[.int .i64 v,.int .i64 (k - r.tdiv 19)]) (by simp [results,Tryz.results53,go_sem]) rfl ⟨v,k - r.tdiv 19,rfl,D8.out.dx,by omega,by omega⟩
 | false=>
  obtain ⟨z0,z1,z2,z3⟩:=D4.out.bx
  go_wp2_with fail
  clear z0 z1 z2 z3
  refine (l1In_any p 0 ((x.hn:Int) - 1) w4).mono ?_
  rintro e w' ⟨rfl,hw⟩
  obtain rfl:=hw.symm
  clear hw
  by_cases hin:0<=p/\p<=(x.hn:Int) - 1
  ·have hb:inB p 0 ((x.hn:Int) - 1)=true:=by simp [inB,hin.1,hin.2]
   rw [hb]
   obtain ⟨P,rfl⟩:∃ P:Nat,p=P:=⟨(p).toNat,by omega⟩
   have hP:P<x.hn:=by omega
   obtain ⟨b,off,ea,cb⟩:=D4.out.dx.sx.self.h.at hP
   have cb:w4.cell? ⟨b,off+P,none⟩=some (.slice (x.hA P) (x.hL P) (x.hC P)):=cb
   have hk':(x.hL P:Int)<=1000:=by have:=HL.out P hP;omega
   have hP':(P:Int)<(x.hn:Int):=by omega
   obtain ⟨z0,z1,z2,z3⟩:=D4.out.bx
   rw [ea] at z3
   clear ea hb
   go_upto_region 7 with fail
   clear z0 z1 z2 z3 cb
   go_wp2_with fail
   refine (l1Below_wide W0 c len cap a0 ((x.hL P:Int)+1) w4 D4.out.dx.cu (by omega) (by omega)).mono ?_
   rintro e w7 ⟨k,rfl,⟨k0,k1⟩,hc7,hg7⟩
   have D7:Hid (DE w w7 W0 c a0 len cap B T w.heap.size x):=D4.out.draw hc7 hg7
   clear hc7 hg7 D4
   go_wp2_with fail
   refine (zY W0 c len cap a0 20 w7 D7.out.dx.cu (by omega) (by omega)).mono ?_
   rintro e w8 ⟨r,rfl,⟨r0,r1⟩,hc8,hg8⟩
   have D8:Hid (DE w w8 W0 c a0 len cap B T w.heap.size x):=D7.out.draw hc8 hg8
   clear hc8 hg8 D7
   have hdv:0<=r.tdiv 19/\r.tdiv 19<=1:=by
    rw [Int.tdiv_eq_ediv_of_nonneg r0]
    omega
   go_wp2
   refine bodyPost_ret (v:=.tuple #[.int .i64 (P:Int),.int .i64 (k - r.tdiv 19)]) (by simp [results,Tryz.results53,go_sem]) rfl ⟨(P:Int),k - r.tdiv 19,rfl,D8.out.dx,by omega,by omega⟩
  ·have hb:inB p 0 ((x.hn:Int) - 1)=false:=by
    simp only [inB,decide_eq_false_iff_not]
    omega
   rw [hb]
   go_upto_region 7 with fail
   go_wp2_with fail
   refine (l1Below_wide W0 c len cap a0 1 w4 D4.out.dx.cu (by omega) (by omega)).mono ?_
   rintro e w7 ⟨k,rfl,⟨k0,k1⟩,hc7,hg7⟩
   have D7:Hid (DE w w7 W0 c a0 len cap B T w.heap.size x):=D4.out.draw hc7 hg7
   clear hc7 hg7 D4
   go_wp2_with fail
   refine (zY W0 c len cap a0 20 w7 D7.out.dx.cu (by omega) (by omega)).mono ?_
   rintro e w8 ⟨r,rfl,⟨r0,r1⟩,hc8,hg8⟩
   have D8:Hid (DE w w8 W0 c a0 len cap B T w.heap.size x):=D7.out.draw hc8 hg8
   clear hc8 hg8 D7
   have hdv:0<=r.tdiv 19/\r.tdiv 19<=1:=by
    rw [Int.tdiv_eq_ediv_of_nonneg r0]
    omega
   go_wp2
   refine bodyPost_ret (v:=.tuple #[.int .i64 p,.int .i64 (k - r.tdiv 19)]) (by simp [results,Tryz.results53,go_sem]) rfl ⟨p,k - r.tdiv 19,rfl,D8.out.dx,by omega,by omega⟩
def Drw5 (w:World) (e:Ending) (w':World):Prop:=∃ (x:SysIn) (p i q j:Int) (B T:Nat),e=.returned (.tuple #[x.v,.int .i64 p,.int .i64 i,.int .i64 q,.int .i64 j])/\x.y.Sm/\SysX w' B T x/\w.heap.size<=B/\T<=w'.heap.size/\Below w.heap.size w w'
theorem l7DrawTwo_any (W0 len cap:Nat) (a0:Option Addr) (w:World) (hB:BytesAt w W0 a0 len) (hW:W0<=w.heap.size) (ln:len<=1048576):
  Calls Tryz.prog 26 #[.slice a0 len cap] w (Drw5 w):=by
 have C0:Hid (BytesAt (w.alloc (zQ3)) W0 a0 len/\W0<=(w.alloc (zQ3)).heap.size/\Below w.heap.size w (w.alloc (zQ3))/\Bx (w.alloc (zQ3)) w.heap.size (.slice none 0 0) (.slice none 0 0) (.slice none 0 0) (.slice none 0 0)/\(w.alloc (zQ3)).heap.size=w.heap.size+1):=⟨hB.kept (fun k hk=>(zQ w (zQ3)).block k (by omega)),by simp;omega,zQ _ _,Bx.new w _ _ _ _ _,by simp⟩
 clear hB
 go_enter Tryz.func26,Tryz.ntmps26
 go_wp2_with fail
 generalize w.alloc (zQ3)=W2 at *
 refine (l1New_any W0 len cap a0 W2 C0.out.1 C0.out.2.1 ln).mono ?_
 rintro e w1 ⟨rfl,hc1,hg1⟩
 have C1:Hid (Cur w1 W0 W2.heap.size a0 len cap/\Below w.heap.size w w1/\Bx w1 w.heap.size (.slice none 0 0) (.slice none 0 0) (.slice none 0 0) (.slice none 0 0)/\W2.heap.size=w.heap.size+1/\W2.heap.size<w1.heap.size):=⟨hc1,C0.out.2.2.1.trans ((below_of_grown hg1).mono C0.out.2.2.1.size),C0.out.2.2.2.1.below (below_of_grown hg1),C0.out.2.2.2.2,hc1.lt⟩
 clear hc1 hg1 C0
 generalize W2.heap.size=c at *
 go_wp2_with fail
 refine (l6Draw_any W0 c len cap a0 w1 C1.out.1).mono ?_
 rintro e w2 ⟨x,B,T,rfl,hm,hX,hc2,hg2,hcB,hT⟩
 have DA:Hid (DW w (w2.alloc (oQ4 x.pa x.pn x.pc x.sa x.sn x.sc x.wa x.wn x.wc x.ha x.hn x.hc)) W0 c a0 len cap w.heap.size w2.heap.size B T x):=by
  have hs:=hg2.size
  have h1:=C1.out.2.2.2.1
  have h2:=C1.out.2.2.2.2
  refine ⟨hc2.alloc _,(Below.grown C1.out.2.1 hg2 C1.out.2.1.size (fun k hk=>by cases hk;omega)).trans ((zQ _ _).mono (by have:=C1.out.2.1.size;omega)),hX.keep (by simp) fun b _ _ hl=>(zQ w2 _).block b hl,(C1.out.2.2.1.grown hg2 (by simp;omega)).below (zQ _ _),Bx.new _ _ _ _ _ _,Nat.le_refl _,by omega,hcB,by omega,hT⟩
 have HM:Hid x.y.Sm:=hm
 clear hX hc2 hg2 hcB hT C1 hm
 go_upto_region 3 with fail
 generalize w2.alloc (oQ4 x.pa x.pn x.pc x.sa x.sn x.sc x.wa x.wn x.wc x.ha x.hn x.hc)=wA at *
 generalize w2.heap.size=M at *
 obtain ⟨⟨z0,z1,z2,z3⟩,-⟩:=DA.out.b6
 go_wp2_with fail
 clear z0 z1 z2 z3
 refine (l7DrawEvent_any W0 c len cap B T a0 x wA HM.out DA.out.cu DA.out.sx DA.out.sz.2.2.1).mono ?_
 rintro e w3 ⟨p,i,rfl,d,-,-⟩
 have D3:Hid (DW w w3 W0 c a0 len cap w.heap.size M B T x):=DA.out.draw d.cu d.gr
 clear d DA
 obtain ⟨⟨z0,z1,z2,z3⟩,-⟩:=D3.out.b6
 go_wp2_with fail
 clear z0 z1 z2 z3
 refine (l7DrawEvent_any W0 c len cap B T a0 x w3 HM.out D3.out.cu D3.out.sx D3.out.sz.2.2.1).mono ?_
 rintro e w4 ⟨q,j,rfl,d,-,-⟩
 have D4:Hid (DW w w4 W0 c a0 len cap w.heap.size M B T x):=D3.out.draw d.cu d.gr
 clear d D3
 obtain ⟨⟨x0,x1,x2,x3⟩,xf⟩:=D4.out.b2
 obtain ⟨⟨z0,z1,z2,z3⟩,-⟩:=D4.out.b6
 go_wp2
 refine bodyPost_ret (v:=.tuple #[x.v,.int .i64 p,.int .i64 i,.int .i64 q,.int .i64 j]) (by simp [results,Tryz.results26,go_sem,x0,x1,x2,x3]) rfl ⟨x,p,i,q,j,B,T,rfl,HM.out,?_,?_,?_,?_⟩
 ·exact D4.out.set4 _ _ _ _
 ·have:=D4.out.sz
  omega
 ·have:=D4.out.sz
  have:=D4.out.b6.lt
  simp
  omega
 ·exact (((D4.out.be.setCell (Nat.le_refl _) _).setCell (Nat.le_refl _) _).setCell (Nat.le_refl _) _).setCell (Nat.le_refl _) _
theorem DrawSide_any (W0 len cap:Nat) (a0:Option Addr) (w:World) (hB:BytesAt w W0 a0 len) (hW:W0<=w.heap.size) (ln:len<=1048576):
  Calls Tryz.prog 13 #[.slice a0 len cap] w (Drw5 w):=by
 have C0:Hid (BytesAt (w.alloc (zQ3)) W0 a0 len/\W0<=(w.alloc (zQ3)).heap.size/\Below w.heap.size w (w.alloc (zQ3))/\Bx (w.alloc (zQ3)) w.heap.size (.slice none 0 0) (.slice none 0 0) (.slice none 0 0) (.slice none 0 0)/\(w.alloc (zQ3)).heap.size=w.heap.size+1):=⟨hB.kept (fun k hk=>(zQ w (zQ3)).block k (by omega)),by simp;omega,zQ _ _,Bx.new w _ _ _ _ _,by simp⟩
 clear hB
 go_enter Tryz.func13,Tryz.ntmps13
 go_wp2_with fail
 generalize w.alloc (zQ3)=W2 at *
 refine (l7DrawTwo_any W0 len cap a0 W2 C0.out.1 C0.out.2.1 ln).mono ?_
 rintro e w2 ⟨x,p,i,q,j,B,T,rfl,hm,hX,hBl,hT,hb⟩
 have HM:Hid x.y.Sm:=hm
 have F:Hid (SysX (w2.alloc (oQ4 x.pa x.pn x.pc x.sa x.sn x.sc x.wa x.wn x.wc x.ha x.hn x.hc)) B T x/\Bx (w2.alloc (oQ4 x.pa x.pn x.pc x.sa x.sn x.sc x.wa x.wn x.wc x.ha x.hn x.hc)) w.heap.size (.slice none 0 0) (.slice none 0 0) (.slice none 0 0) (.slice none 0 0)/\Bx (w2.alloc (oQ4 x.pa x.pn x.pc x.sa x.sn x.sc x.wa x.wn x.wc x.ha x.hn x.hc)) w2.heap.size (.slice x.pa x.pn x.pc) (.slice x.sa x.sn x.sc) (.slice x.wa x.wn x.wc) (.slice x.ha x.hn x.hc)/\Below w.heap.size w (w2.alloc (oQ4 x.pa x.pn x.pc x.sa x.sn x.sc x.wa x.wn x.wc x.ha x.hn x.hc))/\w.heap.size<B/\T<=w2.heap.size):=by
  have h1:=C0.out.2.2.2.2
  have h2:=hb.size
  exact ⟨hX.keep (by simp) fun b _ _ hl=>(zQ w2 _).block b hl,(C0.out.2.2.2.1.below hb).below (zQ _ _),Bx.new _ _ _ _ _ _,(C0.out.2.2.1.trans (hb.mono (by omega))).trans ((zQ _ _).mono (by omega)),by omega,hT⟩
 clear hX hBl hT hb hm C0
 go_upto_region 2 with fail
 generalize w2.alloc (oQ4 x.pa x.pn x.pc x.sa x.sn x.sc x.wa x.wn x.wc x.ha x.hn x.hc)=wA at *
 generalize w2.heap.size=M at *
 obtain ⟨⟨x0,x1,x2,x3⟩,xf⟩:=F.out.2.1
 obtain ⟨⟨z0,z1,z2,z3⟩,-⟩:=F.out.2.2.1
 go_wp2
 refine bodyPost_ret (v:=.tuple #[x.v,.int .i64 p,.int .i64 i,.int .i64 q,.int .i64 j]) (by simp [results,Tryz.results13,go_sem,x0,x1,x2,x3]) rfl ⟨x,p,i,q,j,B,T,rfl,HM.out,?_,?_,?_,?_⟩
 ·exact F.out.1.keep (by simp) fun b hb _ _=>by
   have:=F.out.2.2.2.2.1
   rw [zO _ _ _ _ (by show b≠w.heap.size;omega),zO _ _ _ _ (by show b≠w.heap.size;omega),zO _ _ _ _ (by show b≠w.heap.size;omega),zO _ _ _ _ (by show b≠w.heap.size;omega)]
 ·exact Nat.le_of_lt F.out.2.2.2.2.1
 ·have:=F.out.2.2.2.2.2
  have:=F.out.2.2.1.lt
  simp
  omega
 ·exact (((F.out.2.2.2.1.setCell (Nat.le_refl _) _).setCell (Nat.le_refl _) _).setCell (Nat.le_refl _) _).setCell (Nat.le_refl _) _
theorem sideDLaw_small (a0:Option Addr) (len cap:Nat) (w:World) (hl:len<=1048576) (hB:BytesAt w w.heap.size a0 len) (hV:w.cell? ⟨0,0,none⟩=some (.iface 193 (.agg #[.pointer (some ⟨1,141,none⟩)]))):
  Calls Tryz.prog 4 #[.slice a0 len cap] w fun e w'=>e=.returned (.bool true)/\Below w.heap.size w w':=by
 have HB:Hid (BytesAt w w.heap.size a0 len):=hB
 have HV:Hid (∀ wx,Below w.heap.size w wx->wx.cell? ⟨0,0,none⟩=some (.iface 193 (.agg #[.pointer (some ⟨1,141,none⟩)]))):=fun wx hb=>(hb.cell (p:=⟨0,0,none⟩) (zJ w _ hV)).trans hV
 have hlt:¬ (1048576:Int)<(len:Int):=by omega
 clear hB hV
 go_enter Tryz.func4,Tryz.ntmps4
 go_wp2_with fail
 refine (big_any a0 len cap w).mono ?_
 rintro e w1 ⟨rfl,rfl⟩
 rw [decide_eq_false (show ¬ (1048576:Int)<(len:Int) by omega)]
 go_wp2_with fail
 refine (DrawSide_any w1.heap.size len cap a0 w1 HB.out (Nat.le_refl _) hl).mono ?_
 rintro e w2 ⟨x,p,i,q,j,B,T,rfl,hm,hX,-,-,b2⟩
 have HM:Hid (x.Len/\∀ i,i<x.hn->x.hL i<=x.hC i):=⟨hm.inLen,hX.cap⟩
 have K2:Hid (WJ w1 (w2.alloc (oQ4 x.pa x.pn x.pc x.sa x.sn x.sc x.wa x.wn x.wc x.ha x.hn x.hc)) w2.heap.size x):=⟨hX.self.below (zQ _ _),BoxC.new _ _ _ _ _ _,b2.trans ((zQ _ _).mono b2.size)⟩
 clear hX b2 hm HB
 go_upto_region 4 with fail
 generalize w2.alloc (oQ4 x.pa x.pn x.pc x.sa x.sn x.sc x.wa x.wn x.wc x.ha x.hn x.hc)=W2 at *
 generalize w2.heap.size=X at *
 clear w2
 have HSd:Hid (∀ a b c d t,sdB x.y a b c d=t->∀ wx,WJ w1 wx X x->Calls Tryz.prog 14 #[x.v,.int .i64 a,.int .i64 b,.int .i64 c,.int .i64 d] wx fun e w'=>e=.returned (.bool t)/\WJ w1 w' X x):=fun a b c d t h wx hw=>by
  rw [<- h]
  refine (implSide_any x a b c d wx hw.g HM.out.1 HM.out.2 (HV.out _ hw.be)).mono ?_
  rintro e w' ⟨h1,h2⟩
  exact ⟨h1,hw.below h2⟩
 have HSs:Hid (∀ a b c d t,sdB x.y a b c d=t->∀ wx,WJ w1 wx X x->Calls Tryz.prog 15 #[x.v,.int .i64 a,.int .i64 b,.int .i64 c,.int .i64 d] wx fun e w'=>e=.returned (.bool t)/\WJ w1 w' X x):=fun a b c d t h wx hw=>by
  rw [<- h]
  refine (specSide_any x a b c d wx hw.g HM.out.1 HM.out.2).mono ?_
  rintro e w' ⟨h1,h2⟩
  exact ⟨h1,hw.below h2⟩
 have HHg:Hid (∀ a b c d t,hgB x.y a b c d=t->∀ wx,WJ w1 wx X x->Calls Tryz.prog 9 #[x.v,.int .i64 a,.int .i64 b,.int .i64 c,.int .i64 d] wx fun e w'=>e=.returned (.bool t)/\WJ w1 w' X x):=fun a b c d t h wx hw=>by
  rw [<- h]
  refine (implHangs_any x a b c d wx hw.g HM.out.1 HM.out.2 (HV.out _ hw.be)).mono ?_
  rintro e w' ⟨h1,h2⟩
  exact ⟨h1,hw.below h2⟩
 have HClk:Hid (∀ a b n,(ckL x.y a b).length=n->∀ wx,WJ w1 wx X x->Calls Tryz.prog 16 #[x.v,.int .i64 a,.int .i64 b] wx fun e w'=>(∃ a0 c0,e=.returned (.slice a0 n c0))/\WJ w1 w' X x):=fun a b n h wx hw=>by
  rw [<- h]
  refine (implClock_any x a b wx hw.g HM.out.1 HM.out.2 (HV.out _ hw.be)).mono ?_
  rintro e w' ⟨u,h1,h2,h3⟩
  obtain ⟨a1,c1,rfl,-⟩:=h2.form
  exact ⟨⟨a1,c1,h1⟩,hw.below h3⟩
 have HSy:Hid (sdB x.y q j p i=sdB x.y p i q j):=(sdB_symm x.y p i q j).symm
 obtain ⟨S,hS⟩:∃ S,sdB x.y p i q j=S:=⟨_,rfl⟩
 have HSv:Hid (sdB x.y p i q j=S):=hS
 have HSw:Hid (sdB x.y q j p i=S):=HSy.out.trans hS
 clear hS HSy HV
 obtain ⟨k0,k1,k2,k3⟩:=K2.out.bx
 go_wp2_with fail
 clear k0 k1 k2 k3
 refine (HSd.out p i q j S HSv.out W2 K2.out).mono ?_
 rintro e v3 ⟨rfl,kk⟩
 have J3:Hid (WJ w1 v3 X x):=kk
 clear kk K2
 obtain ⟨k0,k1,k2,k3⟩:=J3.out.bx
 go_wp2_with fail
 clear k0 k1 k2 k3
 refine (HSs.out p i q j S HSv.out v3 J3.out).mono ?_
 rintro e v4 ⟨rfl,kk⟩
 have J4:Hid (WJ w1 v4 X x):=kk
 clear kk J3
 obtain ⟨k0,k1,k2,k3⟩:=J4.out.bx
 go_wp2_with fail
 clear k0 k1 k2 k3
 refine (HSd.out q j p i S HSw.out v4 J4.out).mono ?_
 rintro e v5 ⟨rfl,kk⟩
 have J5:Hid (WJ w1 v5 X x):=kk
 clear kk J4
 clear HSw HSd HSs
 by_cases h1:hasB x.y p i=true
 case neg=>
  have hno:=sdB_no (y:=x.y) (p:=p) (i:=i) (q:=q) (j:=j) (fun h=>h1 h.1)
  have HL1:Hid ((ckL x.y p i).length=0):=Nat.eq_zero_of_not_pos fun h=>h1 (ckL_there.1 h)
  have HH1:Hid (hgB x.y p i q j=false):=hno.2.1
  have HH2:Hid (hgB x.y q j p i=false):=hno.2.2
  obtain rfl:S=false:=HSv.out.symm.trans hno.1
  clear hno h1
  obtain ⟨k0,k1,k2,k3⟩:=J5.out.bx
  go_wp2_with fail
  clear k0 k1 k2 k3
  refine (HClk.out p i 0 HL1.out v5 J5.out).mono ?_
  rintro e v6 ⟨⟨a1,c1,rfl⟩,kk⟩
  have J6:Hid (WJ w1 v6 X x):=kk
  clear kk J5
  obtain ⟨k0,k1,k2,k3⟩:=J6.out.bx
  go_wp2_with fail
  clear k0 k1 k2 k3
  refine (HHg.out p i q j false HH1.out v6 J6.out).mono ?_
  rintro e v7 ⟨rfl,kk⟩
  have J7:Hid (WJ w1 v7 X x):=kk
  clear kk J6
  obtain ⟨k0,k1,k2,k3⟩:=J7.out.bx
  go_wp2_with fail
  clear k0 k1 k2 k3
  refine (HHg.out q j p i false HH2.out v7 J7.out).mono ?_
  rintro e v8 ⟨rfl,kk⟩
  have J8:Hid (WJ w1 v8 X x):=kk
  clear kk J7
  go_wp2
  go_ret
  exact ⟨rfl,J8.out.be⟩
 have HL1:Hid (∃ n,(ckL x.y p i).length=n/\(0:Int)<(n:Int)):=⟨_,rfl,by have:=ckL_there.2 h1;omega⟩
 obtain ⟨n1,hn1,hn1'⟩:=HL1.out
 have HN1:Hid ((ckL x.y p i).length=n1):=hn1
 clear hn1 HL1
 by_cases h2:hasB x.y q j=true
 case neg=>
  have hno:=sdB_no (y:=x.y) (p:=p) (i:=i) (q:=q) (j:=j) (fun h=>h2 h.2.1)
  have HL2:Hid ((ckL x.y q j).length=0):=Nat.eq_zero_of_not_pos fun h=>h2 (ckL_there.1 h)
  have HH1:Hid (hgB x.y p i q j=false):=hno.2.1
  have HH2:Hid (hgB x.y q j p i=false):=hno.2.2
  obtain rfl:S=false:=HSv.out.symm.trans hno.1
  clear hno h1 h2
  obtain ⟨k0,k1,k2,k3⟩:=J5.out.bx
  go_wp2_with fail
  clear k0 k1 k2 k3
  refine (HClk.out p i n1 HN1.out v5 J5.out).mono ?_
  rintro e v6 ⟨⟨a1,c1,rfl⟩,kk⟩
  have J6:Hid (WJ w1 v6 X x):=kk
  clear kk J5
  obtain ⟨k0,k1,k2,k3⟩:=J6.out.bx
  go_wp2_with fail
  clear k0 k1 k2 k3
  refine (HClk.out q j 0 HL2.out v6 J6.out).mono ?_
  rintro e v7 ⟨⟨a2,c2,rfl⟩,kk⟩
  have J7:Hid (WJ w1 v7 X x):=kk
  clear kk J6
  obtain ⟨k0,k1,k2,k3⟩:=J7.out.bx
  go_wp2_with fail
  clear k0 k1 k2 k3
  refine (HHg.out p i q j false HH1.out v7 J7.out).mono ?_
  rintro e v8 ⟨rfl,kk⟩
  have J8:Hid (WJ w1 v8 X x):=kk
  clear kk J7
  obtain ⟨k0,k1,k2,k3⟩:=J8.out.bx
  go_wp2_with fail
  clear k0 k1 k2 k3
  refine (HHg.out q j p i false HH2.out v8 J8.out).mono ?_
  rintro e v9 ⟨rfl,kk⟩
  have J9:Hid (WJ w1 v9 X x):=kk
  clear kk J8
  go_wp2
  go_ret
  exact ⟨rfl,J9.out.be⟩
 have HL2:Hid (∃ n,(ckL x.y q j).length=n/\(0:Int)<(n:Int)):=⟨_,rfl,by have:=ckL_there.2 h2;omega⟩
 obtain ⟨n2,hn2,hn2'⟩:=HL2.out
 have HN2:Hid ((ckL x.y q j).length=n2):=hn2
 clear hn2 HL2
 by_cases hpq:p=q/\i=j
 case pos=>
  have hno := sdB_no (y := x.y) (p := p) (i := i) (q := q) (j := j) (fun h => by
   have h9:=h.2.2
   simp [spEq,hpq.1,hpq.2] at h9)
  have HH1:Hid (hgB x.y p i q j=false):=hno.2.1
  have HH2:Hid (hgB x.y q j p i=false):=hno.2.2
  obtain rfl:S=false:=HSv.out.symm.trans hno.1
  have e1:(p != q)=false:=by simp [hpq.1]
  have e2:(i != j)=false:=by simp [hpq.2]
  clear hno h1 h2 hpq
  obtain ⟨k0,k1,k2,k3⟩:=J5.out.bx
  go_wp2_with fail
  clear k0 k1 k2 k3
  refine (HClk.out p i n1 HN1.out v5 J5.out).mono ?_
  rintro e v6 ⟨⟨a1,c1,rfl⟩,kk⟩
  have J6:Hid (WJ w1 v6 X x):=kk
  clear kk J5
  obtain ⟨k0,k1,k2,k3⟩:=J6.out.bx
  go_wp2_with fail
  clear k0 k1 k2 k3
  refine (HClk.out q j n2 HN2.out v6 J6.out).mono ?_
  rintro e v7 ⟨⟨a2,c2,rfl⟩,kk⟩
  have J7:Hid (WJ w1 v7 X x):=kk
  clear kk J6
  obtain ⟨k0,k1,k2,k3⟩:=J7.out.bx
  go_wp2_with fail
  clear k0 k1 k2 k3
  refine (HHg.out p i q j false HH1.out v7 J7.out).mono ?_
  rintro e v8 ⟨rfl,kk⟩
  have J8:Hid (WJ w1 v8 X x):=kk
  clear kk J7
  obtain ⟨k0,k1,k2,k3⟩:=J8.out.bx
  go_wp2_with fail
  clear k0 k1 k2 k3
  refine (HHg.out q j p i false HH2.out v8 J8.out).mono ?_
  rintro e v9 ⟨rfl,kk⟩
  have J9:Hid (WJ w1 v9 X x):=kk
  clear kk J8
  go_wp2
  go_ret
  exact ⟨rfl,J9.out.be⟩
 have hsp:spEq p i q j=false:=by
  refine Bool.eq_false_iff.2 fun h=>hpq ?_
  simpa [spEq] using h
 have HO:Hid (S=(!hgB x.y p i q j && !hgB x.y q j p i)):=HSv.out.symm.trans (sdB_one h1 h2 hsp)
 have HE:Hid ((p != q)=true\/((p != q)=false/\(i != j)=true)):=by
  show _\/_
  by_cases e:p=q
  ·exact .inr ⟨by simp [e],by simpa using fun e'=>hpq ⟨e,e'⟩⟩
  ·exact .inl (by simpa using e)
 have HT:Hid ((hgB x.y p i q j=true/\hgB x.y q j p i=false/\S=false)\/(hgB x.y p i q j=false/\hgB x.y q j p i=true/\S=false)\/(hgB x.y p i q j=false/\hgB x.y q j p i=false/\S=true)):=by
  show _\/_\/_
  cases t1:hgB x.y p i q j with
  | true=>
   have t2:=hgB_anti t1
   exact .inl ⟨rfl,t2,by rw [HO.out,t1,t2];rfl⟩
  | false=>
   cases t2:hgB x.y q j p i with
   | true=>exact .inr (.inl ⟨rfl,rfl,by rw [HO.out,t1,t2];rfl⟩)
   | false=>exact .inr (.inr ⟨rfl,rfl,by rw [HO.out,t1,t2];rfl⟩)
 clear hsp HO h1 h2 hpq HSv
 rcases HE.out with e1 | ⟨e1,e2⟩
 all_goals
  clear HE
  obtain ⟨k0,k1,k2,k3⟩:=J5.out.bx
  go_wp2_with fail
  clear k0 k1 k2 k3
  refine (HClk.out p i n1 HN1.out v5 J5.out).mono ?_
  rintro e v6 ⟨⟨a1,c1,rfl⟩,kk⟩
  have J6:Hid (WJ w1 v6 X x):=kk
  clear kk J5
  obtain ⟨k0,k1,k2,k3⟩:=J6.out.bx
  go_wp2_with fail
  clear k0 k1 k2 k3
  refine (HClk.out q j n2 HN2.out v6 J6.out).mono ?_
  rintro e v7 ⟨⟨a2,c2,rfl⟩,kk⟩
  have J7:Hid (WJ w1 v7 X x):=kk
  clear kk J6
  rcases HT.out with ⟨ta,tb,rfl⟩ | ⟨ta,tb,rfl⟩ | ⟨ta,tb,rfl⟩
  ·have HH1:Hid (hgB x.y p i q j=true):=ta
   have HH2:Hid (hgB x.y q j p i=false):=tb
   clear ta tb HT
   obtain ⟨k0,k1,k2,k3⟩:=J7.out.bx
   go_wp2_with fail
   clear k0 k1 k2 k3
   refine (HHg.out p i q j true HH1.out v7 J7.out).mono ?_
   rintro e v8 ⟨rfl,kk⟩
   have J8:Hid (WJ w1 v8 X x):=kk
   clear kk J7
   obtain ⟨k0,k1,k2,k3⟩:=J8.out.bx
   go_wp2_with fail
   clear k0 k1 k2 k3
   refine (HHg.out q j p i false HH2.out v8 J8.out).mono ?_
   rintro e v9 ⟨rfl,kk⟩
   have J9:Hid (WJ w1 v9 X x):=kk
   clear kk J8
   go_wp2
   go_ret
   exact ⟨rfl,J9.out.be⟩
  ·have HH1:Hid (hgB x.y p i q j=false):=ta
   have HH2:Hid (hgB x.y q j p i=true):=tb
   clear ta tb HT
   obtain ⟨k0,k1,k2,k3⟩:=J7.out.bx
   go_wp2_with fail
   clear k0 k1 k2 k3
   refine (HHg.out p i q j false HH1.out v7 J7.out).mono ?_
   rintro e v8 ⟨rfl,kk⟩
   have J8:Hid (WJ w1 v8 X x):=kk
   clear kk J7
   obtain ⟨k0,k1,k2,k3⟩:=J8.out.bx
   go_wp2_with fail
   clear k0 k1 k2 k3
   refine (HHg.out q j p i true HH2.out v8 J8.out).mono ?_
   rintro e v9 ⟨rfl,kk⟩
   have J9:Hid (WJ w1 v9 X x):=kk
   clear kk J8
   go_wp2
   go_ret
   exact ⟨rfl,J9.out.be⟩
  ·have HH1:Hid (hgB x.y p i q j=false):=ta
   have HH2:Hid (hgB x.y q j p i=false):=tb
   clear ta tb HT
   obtain ⟨k0,k1,k2,k3⟩:=J7.out.bx
   go_wp2_with fail
   clear k0 k1 k2 k3
   refine (HHg.out p i q j false HH1.out v7 J7.out).mono ?_
   rintro e v8 ⟨rfl,kk⟩
   have J8:Hid (WJ w1 v8 X x):=kk
   clear kk J7
   obtain ⟨k0,k1,k2,k3⟩:=J8.out.bx
   go_wp2_with fail
   clear k0 k1 k2 k3
   refine (HHg.out q j p i false HH2.out v8 J8.out).mono ?_
   rintro e v9 ⟨rfl,kk⟩
   have J9:Hid (WJ w1 v9 X x):=kk
   clear kk J8
   go_wp2
   go_ret
   exact ⟨rfl,J9.out.be⟩
theorem sideDLaw_great (a0:Option Addr) (len cap:Nat) (w:World) (_hm:len<=maxLen) (hl:1048576<len):
  Calls Tryz.prog 4 #[.slice a0 len cap] w fun e w'=>e=.returned (.bool true)/\Below w.heap.size w w':=by
 go_enter Tryz.func4,Tryz.ntmps4
 go_wp2_with fail
 refine (big_any a0 len cap w).mono ?_
 rintro e w1 ⟨rfl,rfl⟩
 rw [decide_eq_true (show (1048576:Int)<(len:Int) by omega)]
 go_wp2
 go_ret
 exact ⟨rfl,Below.refl _ _⟩
open Go.ChangeShapes Go.WideShapes Go.ChangeAt
theorem sideDLifted (os:Os) (started:os.Started) (H:Type) (enc:TypeId × Value->H):
  ReturnsInHanded {} Tryz.checked os 4 .any (fun w args => (Rows.fnSideSpec.pre enc Tryz.prog Tryz.f4 [] false w args /\ laidMetH Tryz.prog [("errors.errorType", Rows.laid_errors_errorType)] w) /\ sizedMet enc Tryz.prog Tryz.f4 (OpenSpec.ofChange Rows.fnSideSpec) false w args)
   (Rows.fnSideSpec.post enc Tryz.prog Tryz.f4 false true false false):=by
 refine returnsInHanded_of_change_and (C := Tryz.checked) (X := fun w _ => laidMetH Tryz.prog [("errors.errorType", Rows.laid_errors_errorType)] w) (fun _ _ _ hh h => h.of_heap hh) Tryz.own started (by kernel_rfl) Tryz.func4
  (ChangeSpec.witness_at (enc := enc) (C := Tryz.checked) (os := os) (X := fun w _ => laidMetH Tryz.prog [("errors.errorType", Rows.laid_errors_errorType)] w) false (laidWorld os) #[.slice none 0 0] 8 rfl (by kernel_rfl) (by kernel_rfl) (by kernel_rfl) (by kernel_rfl) (by kernel_rfl) (laidWorld_met os _)) ?_
 intro W base args ds gs before hval0 hW _ _ hL _
 have hval:∀ (j:Nat) t v,Tryz.f4.params[j]? = some t->args[j]? = some v->Value.okWide Tryz.prog W .any base t v:=hval0
 have hW':=hW
 obtain ⟨p,q,hA0,hV,rfl,hfz,hnd⟩:=hW
 have hA:DataW.TrodAll enc Tryz.prog W 0 (fun _=>true) true Tryz.f4.params.toList args.toList ds p:=hA0
 rw [Tryz.params4] at hA hval
 obtain ⟨v0,d0,rfl,rfl,h0⟩:=trodAll_one hA
 obtain ⟨rfl,rfl⟩:=trodVars_none hV
 have lt0:∀ x ∈ p,x.block<W.heap.size:=by obtain ⟨m,hm⟩:=h0;exact DataW.trod_lt m _ _ _ hm
 have hg:=handle_of_laid hL
 clear hA0 hval0
 have hlaw:Calls Tryz.prog 4 #[v0] W fun e w'=>e=.returned (.bool true)/\Below W.heap.size W w':=by
  obtain ⟨a0,len,cap,rfl⟩:=okWide_slice Tryz.underlying22 (hval 0 22 v0 rfl rfl)
  obtain ⟨hm,hB⟩:=open_bytes h0
  by_cases hs:len<=1048576
  ·exact sideDLaw_small a0 len cap W hs hB hg
  ·exact sideDLaw_great a0 len cap W hm (by omega)
 refine hlaw.mono fun e W' ⟨he,bel⟩=>?_
 subst he
 exact ⟨_,rfl,_,_,_,[],_,[],hW',trodAll_mk1 (shut_bool Tryz.underlying4 _),trodAll_mk1 (Below.trod Tryz.laidOut (by kernel_rfl) (of_decide_eq_true (by kernel_rfl)) h0 bel lt0),rfl,bel.frame _,fun h=>by cases h⟩
theorem sideDSaid:Rows.FnSideSaid:=
 OpenClaim.holds_of_wide 4 Tryz.f4 rfl rfl rfl rfl rfl rfl rfl ⟨rfl,rfl,rfl,rfl,rfl⟩ rfl rfl rfl rfl rfl (by kernel_rfl) Tryz.func4 (by kernel_rfl)
  (of_decide_eq_true (by kernel_rfl)) (by unfold Func.isWrapper;first|(rw [if_pos (by decide +kernel)];kernel_rfl)|(rw [if_neg (by decide +kernel)];exact ⟨rfl,rfl⟩))
  (fun os started H enc _=>sideDLifted os started H enc)
theorem sideDPlain (f : FuncId) (fn : Func) (hf : Tryz.pinned.checked.prog.funcNamed "loop.example/g00196/laws.FnSide" = some f) (hfn : Tryz.pinned.checked.prog.funcs[f]? = some fn) :
  true=Tryz.pinned.checked.prog.looks []/\∀ (j:Nat) t,fn.params[j]? = some t->Tryz.pinned.checked.prog.wantsStandIn t=false:=by
 obtain rfl : f = 4 := Option.some.inj ((show Tryz.prog.funcNamed "loop.example/g00196/laws.FnSide" = some 4 by kernel_rfl).symm.trans hf) |>.symm
 obtain rfl:fn=Tryz.f4:=(Option.some.inj (Tryz.func4.symm.trans hfn)).symm
 refine ⟨by kernel_rfl,fun j t ht=>?_⟩
 rw [Tryz.params4] at ht
 have hm:=Array.mem_of_getElem? ht
 simp at hm
 obtain rfl:=hm
 exact (show Tryz.prog.wantsStandIn 22=false by kernel_rfl)
theorem sideD_card:Rows.FnSideCardSaid:=
 Claim7.holds_tied_plain_at .later [] _ _ _ _ sideDSaid (fun _ h=>by cases h) (by kernel_rfl) (fun _ h=>by cases h) fnSide_row_tie rfl ⟨rfl,rfl⟩ (by kernel_rfl) rfl sideDPlain (by kernel_rfl)
