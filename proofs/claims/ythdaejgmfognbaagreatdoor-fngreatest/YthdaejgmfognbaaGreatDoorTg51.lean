import Derived.Test.YthdaejgmfognbaaGreatDoorTe0
import Derived.Test.YthdaejgmfognbaaGreatDoorTg50
import Derived.Deep.Cut
namespace Go.Proofs.YthdaejgmfognbaaGreatDoor
set_option maxRecDepth 100000
set_option maxHeartbeats 8000000
open Go.RowKit Go.Deep
section
variable {w wr w':World} {W0 c len cap N M B T:Nat} {a0:Option Addr} {x:SysIn}
theorem DW.on (h:DW w wr W0 c a0 len cap N M B T x) (hb:Below wr.heap.size wr w'):DW w w' W0 c a0 len cap N M B T x:=
 ⟨h.cu.kept (zZ hb) (by simp) (fun _ h=>by cases h),h.be.trans (hb.mono h.be.size),h.sx.keep hb.size fun b _ _ hl=>hb.block b hl,h.b2.below hb,h.b6.below hb,h.sz⟩
theorem DW.g (h:DW w wr W0 c a0 len cap N M B T x):∀ w',wr.grownBy w' (some c)->SysG w' x:=fun w' g=>h.sx.g w' fun b hb _ hl=>g.block b hl (fun e=>by have:=h.sz;injection e;omega)
end
def DrwH (w:World) (e:Ending) (w':World):Prop:=∃ (x:SysIn) (a:Option Addr) (cp:Nat) (xs:List Int) (B T:Nat),e=.returned (.tuple #[x.v,.slice a xs.length cp])/\x.y.Sm/\SysX w' B T x/\w.heap.size<=B/\T<=w'.heap.size/\Below w.heap.size w w'/\OwnI w' w.heap.size (.slice a xs.length cp) xs/\xs.length<=20
theorem OwnI.set4 {w:World} {xs:List Int} {B N:Nat} {v:Value} (o:OwnI w B v xs) (hN:N<B) (u0 u1 u2 u3:Value):OwnI ((((w.setCell ⟨N,0,none⟩ u0).setCell ⟨N,1,none⟩ u1).setCell ⟨N,2,none⟩ u2).setCell ⟨N,3,none⟩ u3) B v xs:=o.blk fun k hk=>by
 have hne:k≠N:=by have:=(o.lt k hk).1;omega
 rw [zO _ _ _ _ hne,zO _ _ _ _ hne,zO _ _ _ _ hne,zO _ _ _ _ hne]
theorem l8DrawBoth_any (W0 len cap:Nat) (a0:Option Addr) (w:World) (hB:BytesAt w W0 a0 len) (hW:W0<=w.heap.size) (ln:len<=1048576):
  Calls Tryz.prog 39 #[.slice a0 len cap] w (DrwH w):=by
 have C0:Hid (BytesAt (w.alloc (zQ4)) W0 a0 len/\W0<=(w.alloc (zQ4)).heap.size/\Below w.heap.size w (w.alloc (zQ4))/\Bx (w.alloc (zQ4)) w.heap.size (.slice none 0 0) (.slice none 0 0) (.slice none 0 0) (.slice none 0 0)/\(w.alloc (zQ4)).heap.size=w.heap.size+1):=⟨hB.kept (fun k hk=>(zQ w (zQ4)).block k (by omega)),by simp;omega,zQ _ _,Bx.new w _ _ _ _ _,by simp⟩
 clear hB
 go_enter Tryz.func39,Tryz.ntmps39
 go_wp2_with fail
 generalize w.alloc (zQ4)=W2 at *
 refine (l1New_any W0 len cap a0 W2 C0.out.1 C0.out.2.1 ln).mono ?_
 rintro e w1 ⟨rfl,hc1,hg1⟩
 have C1:Hid (Cur w1 W0 W2.heap.size a0 len cap/\Below w.heap.size w w1/\Bx w1 w.heap.size (.slice none 0 0) (.slice none 0 0) (.slice none 0 0) (.slice none 0 0)/\W2.heap.size=w.heap.size+1/\W2.heap.size<w1.heap.size):=⟨hc1,C0.out.2.2.1.trans ((below_of_grown hg1).mono C0.out.2.2.1.size),C0.out.2.2.2.1.below (below_of_grown hg1),C0.out.2.2.2.2,hc1.lt⟩
 clear hc1 hg1 C0
 generalize W2.heap.size=c at *
 go_wp2_with fail
 refine (l6Draw_any W0 c len cap a0 w1 C1.out.1).mono ?_
 rintro e w2 ⟨x,B,T,rfl,hm,hX,hc2,hg2,hcB,hT⟩
 have DA:Hid (DW w (w2.alloc (oQ4 x.pa x.pn x.pc x.sa x.sn x.sc x.wa x.wn x.wc x.ha x.hn x.hc)) W0 c a0 len cap w.heap.size w2.heap.size B T x):=by
  have hs:=hg2.size
  have h1:=C1.out.2.2.2.1
  have h2:=C1.out.2.2.2.2
  refine ⟨hc2.alloc _,(Below.grown C1.out.2.1 hg2 C1.out.2.1.size (fun k hk=>by cases hk;omega)).trans ((zQ _ _).mono (by have:=C1.out.2.1.size;omega)),hX.keep (by simp) fun b _ _ hl=>(zQ w2 _).block b hl,(C1.out.2.2.1.grown hg2 (by simp;omega)).below (zQ _ _),Bx.new _ _ _ _ _ _,Nat.le_refl _,by omega,hcB,by omega,hT⟩
 have HM:Hid x.y.Sm:=hm
 clear hX hc2 hg2 hcB hT C1 hm
 go_wp2_with fail
 generalize w2.alloc (oQ4 x.pa x.pn x.pc x.sa x.sn x.sc x.wa x.wn x.wc x.ha x.hn x.hc)=wA at *
 generalize w2.heap.size=M at *
 obtain ⟨⟨x0,x1,x2,x3⟩,xf⟩:=DA.out.b2
 obtain ⟨⟨z0,z1,z2,z3⟩,-⟩:=DA.out.b6
 have HG:Hid (∀ w',wA.drew.grownBy w' (some c)->SysG w' x):=fun w' g=>DA.out.g w' ⟨g.os,g.tape,g.output,g.size,g.block⟩
 go_region_law (refine step_call rfl 90 _ _ rfl #[.pointer (some ⟨c,0,none⟩),x.v] (by simp [Act.eval,SysIn.v,sysV]) (yA Tryz.func90 (by kernel_rfl) rfl) (l8DrawCut_any W0 c len cap a0 x wA.drew DA.out.cu.drew HG.out HM.out) ?_;rintro e w3 ⟨v3,xs,rfl,o3,l3,hc3,hg3⟩;obtain ⟨a3,c3,rfl,-⟩:=o3.form;refine ⟨_,rfl,?_⟩;have D3:Hid (DW w w3 W0 c a0 len cap w.heap.size M B T x/\OwnI w3 wA.heap.size (.slice a3 xs.length c3) xs/\xs.length<=20/\w.heap.size<wA.heap.size):=⟨DA.out.draw hc3 ⟨hg3.os,hg3.tape,hg3.output,hg3.size,hg3.block⟩,o3,l3,by have:=DA.out.sz;have:=DA.out.cu.lt;omega⟩;obtain ⟨⟨r0,r1,r2,r3⟩,rf⟩:=D3.out.1.b2;obtain ⟨⟨s0,s1,s2,s3⟩,-⟩:=D3.out.1.b6;clear hc3 hg3 o3 l3)
 all_goals
  clear x0 x1 x2 x3 xf z0 z1 z2 z3 s0 s1 s2 s3 DA HG
  go_wp2
  refine bodyPost_ret (v:=.tuple #[x.v,.slice a3 xs.length c3]) (by simp [results,Tryz.results39,go_sem,r0,r1,r2,r3]) rfl ⟨x,a3,c3,xs,B,T,rfl,HM.out,D3.out.1.set4 _ _ _ _,?_,?_,?_,(OwnI.set4 D3.out.2.1 D3.out.2.2.2 _ _ _ _).mono (Nat.le_of_lt D3.out.2.2.2),D3.out.2.2.1⟩
  ·have:=D3.out.1.sz
   omega
  ·have:=D3.out.1.sz
   have:=D3.out.1.b6.lt
   simp
   omega
  ·exact (((D3.out.1.be.setCell (Nat.le_refl _) _).setCell (Nat.le_refl _) _).setCell (Nat.le_refl _) _).setCell (Nat.le_refl _) _
