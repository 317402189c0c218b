import Derived.Test.YtlpckaoldaijlaaGreatDoorSe0
import Derived.Test.YtlpckaoldaijlaaGreatDoorSe46
import Derived.Test.YtlpckaoldaijlaaGreatDoorSe39
import Derived.Deep.Cut
namespace Go.Proofs.YtlpckaoldaijlaaGreatDoor
set_option maxRecDepth 100000
set_option maxHeartbeats 8000000
open Go.RowKit Go.Deep
theorem OwnI.grown {w w':World} {B c:Nat} {v:Value} {xs:List Int} (h:OwnI w B v xs) (g:w.grownBy w' (some c)) (hc:c<B):OwnI w' B v xs:=by
 refine h.kept g ?_
 cases hv:v.ownBlock with
 | none=>exact .inl rfl
 | some k=>exact .inr (fun e=>by have:=(h.lt k hv).1;injection e;omega)
structure CD (w wr:World) (W0 c:Nat) (a0:Option Addr) (len cap:Nat) (x:SysIn) (v:Value) (xs:List Int):Prop where
 cu:Cur wr W0 c a0 len cap
 gr:w.grownBy wr (some c)
 bx:BoxC wr w.heap.size (.slice x.pa x.pn x.pc) (.slice x.sa x.sn x.sc) (.slice x.wa x.wn x.wc) (.slice x.ha x.hn x.hc)
 ow:OwnI wr (w.heap.size+1) v xs
 lt:c<w.heap.size/\w.heap.size+1<=wr.heap.size
section
variable {w wr w':World} {W0 c len cap:Nat} {a0:Option Addr} {x:SysIn} {v:Value} {xs:List Int}
theorem BoxC.blkC {w w':World} {N:Nat} {p a b q:Value} (h:BoxC w N p a b q) (hb:w'.heap[N]? = w.heap[N]?):BoxC w' N p a b q:=
 ⟨(zH hb).trans h.1,(zH hb).trans h.2.1,(zH hb).trans h.2.2.1,(zH hb).trans h.2.2.2⟩
theorem CD.draw (h:CD w wr W0 c a0 len cap x v xs) (hc:Cur w' W0 c a0 len cap) (hg:wr.grownBy w' (some c)):CD w w' W0 c a0 len cap x v xs:=
 ⟨hc,h.gr.trans hg,h.bx.blkC (hg.block _ h.lt.2 (fun e=>by have:=h.lt.1;injection e;omega)),h.ow.grown hg (by have:=h.lt.1;omega),h.lt.1,zP h.lt.2 hg.size⟩
theorem CD.next (h:CD w wr W0 c a0 len cap x v xs) {v':Value} {ys:List Int} (hb:Below (w.heap.size+1) wr w') (ho:OwnI w' (w.heap.size+1) v' ys):CD w w' W0 c a0 len cap x v' ys:=by
 have hl:=h.lt
 have g:wr.grownBy w' (some w'.heap.size)->True:=fun _=>trivial
 refine ⟨?_,⟨hb.os.trans h.gr.os,hb.tape.trans h.gr.tape,hb.output.trans h.gr.output,zP h.gr.size hb.size,fun k hk hne=>(hb.block k (by omega)).trans (h.gr.block k hk hne)⟩,h.bx.blkC (hb.block _ (by omega)),ho,hl.1,zP hl.2 hb.size⟩
 have hcc:=h.cu
 have hblk:w'.heap[c]? = wr.heap[c]?:=hb.block c (by omega)
 exact ⟨hcc.ex.imp fun i=>fun ⟨z,e⟩=>⟨z,(zH hblk).trans e.1,(zH hblk).trans e.2.1,(zH hblk).trans e.2.2⟩,fun o=>(zI hblk).trans (hcc.fr o),by have:=hb.size;omega,hcc.ge,hcc.by'.kept fun k hk=>hb.block k (by have:=hcc.ge;omega),hcc.ln⟩
end
def DrwC (w:World) (W0 c:Nat) (a0:Option Addr) (len cap:Nat) (e:Ending) (w':World):Prop:=∃ v xs,e=.returned v/\OwnI w' w.heap.size v xs/\xs.length<=20/\Cur w' W0 c a0 len cap/\w.grownBy w' (some c)
theorem l8DrawCut_any (W0 c len cap:Nat) (a0:Option Addr) (x:SysIn) (w:World) (hc:Cur w W0 c a0 len cap) (hX:∀ w',w.grownBy w' (some c)->SysG w' x) (hm:x.y.Sm):
  Calls Tryz.prog 40 #[.pointer (some ⟨c,0,none⟩),x.v] w (DrwC w W0 c a0 len cap):=by
 have HX:Hid (∀ w',w.grownBy w' (some c)->SysG w' x):=hX
 have HM:Hid (x.hn<=16/\∀ i,i<x.hn->x.hL i<=1000):=⟨hm.n.2.2.2,hm.h⟩
 have hn':(x.hn:Int)<=16:=by have:x.hn<=16:=hm.n.2.2.2;omega
 have C0:Hid (CD w ((w.alloc (oQ4 x.pa x.pn x.pc x.sa x.sn x.sc x.wa x.wn x.wc x.ha x.hn x.hc)).alloc (.cells #[] 3)) W0 c a0 len cap x (.slice (some ⟨w.heap.size+1,0,none⟩) 0 0) []):=by
  have hcl:=hc.lt
  have h1:=BoxC.new w (.slice x.pa x.pn x.pc) (.slice x.sa x.sn x.sc) (.slice x.wa x.wn x.wc) (.slice x.ha x.hn x.hc) 29
  have b2:=zQ (w.alloc (oQ4 x.pa x.pn x.pc x.sa x.sn x.sc x.wa x.wn x.wc x.ha x.hn x.hc)) (.cells #[] 3)
  have ho:=World.ownsRow_made (base:=w.heap.size+1) (e:=3) (size:=1) (w.alloc (oQ4 x.pa x.pn x.pc x.sa x.sn x.sc x.wa x.wn x.wc x.ha x.hn x.hc)) #[] 0 (by simp) (by unfold maxLen;omega) (by simp)
  simp only [World.size_alloc] at ho
  exact ⟨(hc.alloc _).alloc _,(World.grownBy_alloc _ _ _).trans (World.grownBy_alloc _ _ _),h1.below b2,ho,hcl,by simp⟩
 clear hc hX hm
 go_enter Tryz.func40,Tryz.ntmps40
 go_wp2_with fail
 generalize (w.alloc (oQ4 x.pa x.pn x.pc x.sa x.sn x.sc x.wa x.wn x.wc x.ha x.hn x.hc)).alloc (.cells #[] 3)=wA at *
 go_loopw [5,6] (fun u i wr=>∃ (j:Nat) (a:Option Addr) (cp:Nat) (xs:List Int),j<=x.hn/\i=.int .i64 j/\u=.slice a j cp/\Hid (CD w wr W0 c a0 len cap x (.slice a j cp) xs/\xs.length=j)) (fun _ i _=>x.hn - (intOf i).toNat)
 case atStart=>exact ⟨0,_,_,[],Nat.zero_le _,rfl,rfl,C0.out,rfl⟩
 case round=>
  clear C0
  obtain ⟨j,a,cp,xs,hj,rfl,rfl,HC⟩:=hrel
  have p3:=HC.out.1.bx.2.2.2
  by_cases hlt:j<x.hn
  ·have hlt':(j:Int)<(x.hn:Int):=by omega
   obtain ⟨b,off,ea,ch⟩:=(HX.out wr HC.out.1.gr).h.at hlt
   rw [ea] at p3
   clear ea
   have hll:(x.hL j:Int)<=1000:=by have:=HM.out.2 j hlt;omega
   go_wp2_with fail
   clear p3 ch
   refine (l1Once_any W0 c len cap a0 2 wr HC.out.1.cu (by omega) (by omega)).mono ?_
   rintro e w1 ⟨t,rfl,c1,g1⟩
   have C1:Hid (CD w w1 W0 c a0 len cap x (.slice a j cp) xs/\xs.length=j):=⟨HC.out.1.draw c1 g1,HC.out.2⟩
   clear c1 g1 HC
   cases t
   ·go_wp2_with (at_builtin;refine append_oneN w1 rfl rfl _ _ rfl (w.heap.size+1) (.slice a j cp) xs rfl C1.out.1.ow (x.hL j:Int) rfl (by have:=C1.out.2;omega) C1.out.1.lt.2 ?_;intro v5 w5 o5 b5;obtain ⟨a5,c5,rfl,-⟩:=o5.form;have h8:(xs ++ [(x.hL j:Int)]).length=j+1:=(by simp [C1.out.2]);have h9:=C1.out.1.next b5 o5;have C5:Hid (CD w w5 W0 c a0 len cap x (.slice a5 (j+1) c5) (xs ++ [(x.hL j:Int)])/\(xs ++ [(x.hL j:Int)]).length=j+1):=⟨(show CD w w5 W0 c a0 len cap x (.slice a5 (j+1) c5) (xs ++ [(x.hL j:Int)]) from h8 ▸ h9),h8⟩;clear o5 b5 h8 h9)
    go_roundw
    case rel=>exact ⟨j+1,a5,c5,_,by omega,by go_num,by first | rfl | (rw [C1.out.2]),C5.out⟩
    case measure=>simp [intOf];omega
   ·go_wp2_with fail
    refine (l1Below_wide W0 c len cap a0 ((x.hL j:Int)+1) w1 C1.out.1.cu (by omega) (by omega)).mono ?_
    rintro e w2 ⟨z,rfl,hz,c2,g2⟩
    have C2:Hid (CD w w2 W0 c a0 len cap x (.slice a j cp) xs/\xs.length=j):=⟨C1.out.1.draw c2 g2,C1.out.2⟩
    clear c2 g2 C1
    go_wp2_with (at_builtin;refine append_oneN w2 rfl rfl _ _ rfl (w.heap.size+1) (.slice a j cp) xs rfl C2.out.1.ow z rfl (by have:=C2.out.2;omega) C2.out.1.lt.2 ?_;intro v5 w5 o5 b5;obtain ⟨a5,c5,rfl,-⟩:=o5.form;have h8:(xs ++ [z]).length=j+1:=(by simp [C2.out.2]);have h9:=C2.out.1.next b5 o5;have C5:Hid (CD w w5 W0 c a0 len cap x (.slice a5 (j+1) c5) (xs ++ [z])/\(xs ++ [z]).length=j+1):=⟨(show CD w w5 W0 c a0 len cap x (.slice a5 (j+1) c5) (xs ++ [z]) from h8 ▸ h9),h8⟩;clear o5 b5 h8 h9)
    go_roundw
    case rel=>exact ⟨j+1,a5,c5,_,by omega,by go_num,by first | rfl | (rw [C2.out.2]),C5.out⟩
    case measure=>simp [intOf];omega
  ·have hjn:j<=16:=by omega
   have hjn':(j:Int)<=16:=by omega
   go_wp2_with fail
   clear p3
   refine (zY W0 c len cap a0 15 wr HC.out.1.cu (by omega) (by omega)).mono ?_
   rintro e w1 ⟨z,rfl,hz,c1,g1⟩
   have C1:Hid (CD w w1 W0 c a0 len cap x (.slice a j cp) xs/\xs.length=j):=⟨HC.out.1.draw c1 g1,HC.out.2⟩
   clear c1 g1 HC
   by_cases z0:z=0
   ·subst z0
    go_wp2_with (at_builtin;refine append_oneN w1 rfl rfl _ _ rfl (w.heap.size+1) (.slice a j cp) xs rfl C1.out.1.ow 0 rfl (by have:=C1.out.2;omega) C1.out.1.lt.2 ?_;intro v5 w5 o5 b5;obtain ⟨a5,c5,rfl,-⟩:=o5.form;have C5:Hid (CD w w5 W0 c a0 len cap x (.slice a5 (xs ++ [(0:Int)]).length c5) (xs ++ [(0:Int)])/\(xs ++ [(0:Int)]).length<=20):=⟨C1.out.1.next b5 o5,by have:=C1.out.2;simp;omega⟩;clear o5 b5)
    refine bodyPost_ret (v:=.slice a5 (xs ++ [(0:Int)]).length c5) (by simp [results,Tryz.results40,go_sem]) rfl ⟨_,_,rfl,C5.out.1.ow.mono (by omega),C5.out.2,C5.out.1.cu,C5.out.1.gr⟩
   by_cases z1:z=1
   ·subst z1
    by_cases hj0:j=0
    ·subst hj0
     go_wp2
     refine bodyPost_ret (v:=.slice a 0 cp) (by simp [results,Tryz.results40,go_sem]) rfl ⟨_,xs,rfl,C1.out.1.ow.mono (by omega),by have:=C1.out.2;omega,C1.out.1.cu,C1.out.1.gr⟩
    ·have hj0':(j:Int) > 0:=by omega
     have CA:Hid (CD w (w1.alloc (.cells #[.int .i64 (-1),.int .i64 300] 3)) W0 c a0 len cap x (.slice a j cp) xs/\xs.length=j/\IntsAt (w1.alloc (.cells #[.int .i64 (-1),.int .i64 300] 3)) w1.heap.size 2 (fun i=>if i=0 then -1 else 300)/\w1.heap.size≠c/\w1.heap.size<(w1.alloc (.cells #[.int .i64 (-1),.int .i64 300] 3)).heap.size):=by
      have hl:=C1.out.1.lt
      refine ⟨C1.out.1.draw (C1.out.1.cu.alloc _) (World.grownBy_alloc _ _ _),C1.out.2,fun i hi=>?_,by omega,by simp⟩
      match i,hi with
      | 0,_=>exact zW _ _ _ 0 rfl
      | 1,_=>exact zW _ _ _ 1 rfl
     go_wp2_with fail
     generalize w1.alloc (.cells #[.int .i64 (-1),.int .i64 300] 3)=wB at *
     refine (l1PickInt_any W0 c len cap w1.heap.size 2 2 a0 _ wB CA.out.1.cu (by omega) (by omega) CA.out.2.2.2.2 CA.out.2.2.2.1 CA.out.2.2.1).mono ?_
     rintro e w3 ⟨z3,rfl,c3,g3⟩
     have C3:Hid (CD w w3 W0 c a0 len cap x (.slice a j cp) xs/\xs.length=j):=⟨CA.out.1.draw c3 g3,CA.out.2.1⟩
     clear c3 g3 CA C1
     have ho:=C3.out.1.ow
     rw [<- C3.out.2] at ho
     obtain ⟨g,cp',ev,hg,hgl⟩:=ho.block (by have:=C3.out.2;omega)
     simp only [Value.slice.injEq,true_and] at ev
     obtain ⟨rfl,rfl⟩:=ev
     have q0:=ho.cell (j:=0) (by have:=C3.out.2;omega)
     have fz:=fun i=>ho.frozen i
     have hs:=(ho.set rfl 0 z3)
     have C4:Hid (CD w (w3.setCell ⟨g,0,none⟩ (.int .i64 z3)) W0 c a0 len cap x (.slice (some ⟨g,0,none⟩) xs.length cp) (xs.set 0 z3)/\xs.length=j):=by
      refine ⟨C3.out.1.next ⟨rfl,rfl,rfl,by simp,fun k hk=>zO _ _ _ _ (by show k≠g;omega)⟩ hs.1,C3.out.2⟩
     clear hs ho
     go_wp2
     refine bodyPost_ret (v:=.slice (some ⟨g,0,none⟩) j cp) (by simp [results,Tryz.results40,go_sem]) rfl ⟨_,xs.set 0 z3,rfl,by have h9:=C4.out.1.ow.mono (show w.heap.size<=w.heap.size+1 by omega);rw [C4.out.2] at h9;exact h9,by have:=C4.out.2;simp;omega,C4.out.1.cu,C4.out.1.gr⟩
   ·have z0':(z == 0)=false:=by simp [z0]
    have z1':(z == 1)=false:=by simp [z1]
    go_wp2
    refine bodyPost_ret (v:=.slice a j cp) (by simp [results,Tryz.results40,go_sem]) rfl ⟨_,xs,rfl,C1.out.1.ow.mono (by omega),by have:=C1.out.2;omega,C1.out.1.cu,C1.out.1.gr⟩
section
variable {w wr w':World} {W0 c len cap N M B T:Nat} {a0:Option Addr} {x:SysIn}
theorem DW.on (h:DW w wr W0 c a0 len cap N M B T x) (hb:Below wr.heap.size wr w'):DW w w' W0 c a0 len cap N M B T x:=
 ⟨h.cu.kept (zZ hb) (by simp) (fun _ h=>by cases h),h.be.trans (hb.mono h.be.size),h.sx.keep hb.size fun b _ _ hl=>hb.block b hl,h.b2.below hb,h.b6.below hb,h.sz⟩
theorem DW.g (h:DW w wr W0 c a0 len cap N M B T x):∀ w',wr.grownBy w' (some c)->SysG w' x:=fun w' g=>h.sx.g w' fun b hb _ hl=>g.block b hl (fun e=>by have:=h.sz;injection e;omega)
end
def DrwH (w:World) (e:Ending) (w':World):Prop:=∃ (x:SysIn) (a:Option Addr) (cp:Nat) (xs:List Int) (B T:Nat),e=.returned (.tuple #[x.v,.slice a xs.length cp])/\x.y.Sm/\SysX w' B T x/\w.heap.size<=B/\T<=w'.heap.size/\Below w.heap.size w w'/\OwnI w' w.heap.size (.slice a xs.length cp) xs/\xs.length<=20
theorem OwnI.set4 {w:World} {xs:List Int} {B N:Nat} {v:Value} (o:OwnI w B v xs) (hN:N<B) (u0 u1 u2 u3:Value):OwnI ((((w.setCell ⟨N,0,none⟩ u0).setCell ⟨N,1,none⟩ u1).setCell ⟨N,2,none⟩ u2).setCell ⟨N,3,none⟩ u3) B v xs:=o.blk fun k hk=>by
 have hne:k≠N:=by have:=(o.lt k hk).1;omega
 rw [zO _ _ _ _ hne,zO _ _ _ _ hne,zO _ _ _ _ hne,zO _ _ _ _ hne]
theorem DrawWhole_any (W0 len cap:Nat) (a0:Option Addr) (w:World) (hB:BytesAt w W0 a0 len) (hW:W0<=w.heap.size) (ln:len<=1048576):
  Calls Tryz.prog 9 #[.slice a0 len cap] w (DrwH w):=by
 have C0:Hid (BytesAt (w.alloc (zQ4)) W0 a0 len/\W0<=(w.alloc (zQ4)).heap.size/\Below w.heap.size w (w.alloc (zQ4))/\Bx (w.alloc (zQ4)) w.heap.size (.slice none 0 0) (.slice none 0 0) (.slice none 0 0) (.slice none 0 0)/\(w.alloc (zQ4)).heap.size=w.heap.size+1):=⟨hB.kept (fun k hk=>(zQ w (zQ4)).block k (by omega)),by simp;omega,zQ _ _,Bx.new w _ _ _ _ _,by simp⟩
 clear hB
 go_enter Tryz.func9,Tryz.ntmps9
 go_wp2_with fail
 generalize w.alloc (zQ4)=W2 at *
 refine (l1New_any W0 len cap a0 W2 C0.out.1 C0.out.2.1 ln).mono ?_
 rintro e w1 ⟨rfl,hc1,hg1⟩
 have C1:Hid (Cur w1 W0 W2.heap.size a0 len cap/\Below w.heap.size w w1/\Bx w1 w.heap.size (.slice none 0 0) (.slice none 0 0) (.slice none 0 0) (.slice none 0 0)/\W2.heap.size=w.heap.size+1/\W2.heap.size<w1.heap.size):=⟨hc1,C0.out.2.2.1.trans ((below_of_grown hg1).mono C0.out.2.2.1.size),C0.out.2.2.2.1.below (below_of_grown hg1),C0.out.2.2.2.2,hc1.lt⟩
 clear hc1 hg1 C0
 generalize W2.heap.size=c at *
 go_wp2_with fail
 refine (l6Draw_any W0 c len cap a0 w1 C1.out.1).mono ?_
 rintro e w2 ⟨x,B,T,rfl,hm,hX,hc2,hg2,hcB,hT⟩
 have DA:Hid (DW w (w2.alloc (oQ4 x.pa x.pn x.pc x.sa x.sn x.sc x.wa x.wn x.wc x.ha x.hn x.hc)) W0 c a0 len cap w.heap.size w2.heap.size B T x):=by
  have hs:=hg2.size
  have h1:=C1.out.2.2.2.1
  have h2:=C1.out.2.2.2.2
  refine ⟨hc2.alloc _,(Below.grown C1.out.2.1 hg2 C1.out.2.1.size (fun k hk=>by cases hk;omega)).trans ((zQ _ _).mono (by have:=C1.out.2.1.size;omega)),hX.keep (by simp) fun b _ _ hl=>(zQ w2 _).block b hl,(C1.out.2.2.1.grown hg2 (by simp;omega)).below (zQ _ _),Bx.new _ _ _ _ _ _,Nat.le_refl _,by omega,hcB,by omega,hT⟩
 have HM:Hid x.y.Sm:=hm
 clear hX hc2 hg2 hcB hT C1 hm
 go_wp2_with fail
 generalize w2.alloc (oQ4 x.pa x.pn x.pc x.sa x.sn x.sc x.wa x.wn x.wc x.ha x.hn x.hc)=wA at *
 generalize w2.heap.size=M at *
 obtain ⟨⟨z0,z1,z2,z3⟩,-⟩:=DA.out.b6
 go_wp2_with fail
 clear z0 z1 z2 z3
 refine (l8DrawCut_any W0 c len cap a0 x wA DA.out.cu DA.out.g HM.out).mono ?_
 rintro e w3 ⟨v3,xs,rfl,o3,l3,hc3,hg3⟩
 obtain ⟨a3,c3,rfl,-⟩:=o3.form
 have D3:Hid (DW w w3 W0 c a0 len cap w.heap.size M B T x/\OwnI w3 wA.heap.size (.slice a3 xs.length c3) xs/\xs.length<=20/\c<wA.heap.size/\w.heap.size<wA.heap.size):=⟨DA.out.draw hc3 hg3,o3,l3,DA.out.cu.lt,by have:=DA.out.sz;have:=DA.out.cu.lt;omega⟩
 clear o3 l3 hc3 hg3 DA
 obtain ⟨⟨z0,z1,z2,z3⟩,-⟩:=D3.out.1.b6
 go_wp2_with fail
 clear z0 z1 z2 z3
 have HSl:Hid (Sl w3 a3 xs):=by
  obtain ⟨a',c',e,s⟩:=D3.out.2.1.form
  simp only [Value.slice.injEq] at e
  rw [e.1]
  exact s
 refine (specCutOk_any x a3 c3 xs w3 D3.out.1.sx.self HM.out.inLen D3.out.1.sx.cap HSl.out (by have:=D3.out.2.2.1;omega)).mono ?_
 rintro e w4 ⟨rfl,b4⟩
 have D4:Hid (DW w w4 W0 c a0 len cap w.heap.size M B T x/\OwnI w4 wA.heap.size (.slice a3 xs.length c3) xs/\xs.length<=20/\c<wA.heap.size/\w.heap.size<wA.heap.size):=⟨D3.out.1.on b4,D3.out.2.1.below b4,D3.out.2.2⟩
 clear b4 D3 HSl
 generalize ht:cutB x.y xs=t
 have HT:Hid (cutB x.y xs=t):=ht
 clear ht
 cases t
 ·obtain ⟨⟨r0,r1,r2,r3⟩,rf⟩:=D4.out.1.b2
  obtain ⟨⟨z0,z1,z2,z3⟩,-⟩:=D4.out.1.b6
  go_wp2
  refine bodyPost_ret (v:=.tuple #[x.v,.slice a3 xs.length c3]) (by simp [results,Tryz.results9,go_sem,r0,r1,r2,r3]) rfl ⟨x,a3,c3,xs,B,T,rfl,HM.out,D4.out.1.set4 _ _ _ _,?_,?_,?_,(OwnI.set4 D4.out.2.1 D4.out.2.2.2.2 _ _ _ _).mono (Nat.le_of_lt D4.out.2.2.2.2),D4.out.2.2.1⟩
  ·have:=D4.out.1.sz
   omega
  ·have:=D4.out.1.sz
   have:=D4.out.1.b6.lt
   simp
   omega
  ·exact (((D4.out.1.be.setCell (Nat.le_refl _) _).setCell (Nat.le_refl _) _).setCell (Nat.le_refl _) _).setCell (Nat.le_refl _) _
 go_wp2_with fail
 refine (l1Once_any W0 c len cap a0 2 w4 D4.out.1.cu (by omega) (by omega)).mono ?_
 rintro e w5 ⟨t5,rfl,hc5,hg5⟩
 have D5:Hid (DW w w5 W0 c a0 len cap w.heap.size M B T x/\OwnI w5 wA.heap.size (.slice a3 xs.length c3) xs/\xs.length<=20/\c<wA.heap.size/\w.heap.size<wA.heap.size):=⟨D4.out.1.draw hc5 hg5,D4.out.2.1.grown hg5 D4.out.2.2.2.1,D4.out.2.2⟩
 clear hc5 hg5 D4
 cases t5
 ·obtain ⟨⟨r0,r1,r2,r3⟩,rf⟩:=D5.out.1.b2
  obtain ⟨⟨z0,z1,z2,z3⟩,-⟩:=D5.out.1.b6
  go_wp2
  refine bodyPost_ret (v:=.tuple #[x.v,.slice a3 xs.length c3]) (by simp [results,Tryz.results9,go_sem,r0,r1,r2,r3]) rfl ⟨x,a3,c3,xs,B,T,rfl,HM.out,D5.out.1.set4 _ _ _ _,?_,?_,?_,(OwnI.set4 D5.out.2.1 D5.out.2.2.2.2 _ _ _ _).mono (Nat.le_of_lt D5.out.2.2.2.2),D5.out.2.2.1⟩
  ·have:=D5.out.1.sz
   omega
  ·have:=D5.out.1.sz
   have:=D5.out.1.b6.lt
   simp
   omega
  ·exact (((D5.out.1.be.setCell (Nat.le_refl _) _).setCell (Nat.le_refl _) _).setCell (Nat.le_refl _) _).setCell (Nat.le_refl _) _
 obtain ⟨⟨z0,z1,z2,z3⟩,-⟩:=D5.out.1.b6
 go_wp2_with fail
 clear z0 z1 z2 z3
 have HSl:Hid (Sl w5 a3 xs):=by
  obtain ⟨a',c',e,s⟩:=D5.out.2.1.form
  simp only [Value.slice.injEq] at e
  rw [e.1]
  exact s
 refine (l8Close_any x a3 c3 xs w5 D5.out.1.sx.self D5.out.1.sx.cap HT.out HSl.out).mono ?_
 rintro e w6 ⟨v6,rfl,o6,b6⟩
 obtain ⟨a6,c6,rfl,-⟩:=o6.form
 have D6:Hid (DW w w6 W0 c a0 len cap w.heap.size M B T x/\OwnI w6 w5.heap.size (.slice a6 (clS x.y xs).length c6) (clS x.y xs)/\(clS x.y xs).length<=20/\w.heap.size<w5.heap.size):=⟨D5.out.1.on b6,o6,by have:=clS_len x.y xs;omega,by have:=D5.out.1.sz;have:=D5.out.1.b6.lt;omega⟩
 clear o6 b6 D5 HSl
 generalize clS x.y xs=ys at *
 obtain ⟨⟨r0,r1,r2,r3⟩,rf⟩:=D6.out.1.b2
 obtain ⟨⟨z0,z1,z2,z3⟩,-⟩:=D6.out.1.b6
 go_wp2
 refine bodyPost_ret (v:=.tuple #[x.v,.slice a6 ys.length c6]) (by simp [results,Tryz.results9,go_sem,r0,r1,r2,r3]) rfl ⟨x,a6,c6,ys,B,T,rfl,HM.out,D6.out.1.set4 _ _ _ _,?_,?_,?_,(OwnI.set4 D6.out.2.1 D6.out.2.2.2 _ _ _ _).mono (Nat.le_of_lt D6.out.2.2.2),D6.out.2.2.1⟩
 ·have:=D6.out.1.sz
  omega
 ·have:=D6.out.1.sz
  have:=D6.out.1.b6.lt
  simp
  omega
 ·exact (((D6.out.1.be.setCell (Nat.le_refl _) _).setCell (Nat.le_refl _) _).setCell (Nat.le_refl _) _).setCell (Nat.le_refl _) _
theorem l8DrawBoth_any (W0 len cap:Nat) (a0:Option Addr) (w:World) (hB:BytesAt w W0 a0 len) (hW:W0<=w.heap.size) (ln:len<=1048576):
  Calls Tryz.prog 43 #[.slice a0 len cap] w (DrwH w):=by
 have C0:Hid (BytesAt (w.alloc (zQ4)) W0 a0 len/\W0<=(w.alloc (zQ4)).heap.size/\Below w.heap.size w (w.alloc (zQ4))/\Bx (w.alloc (zQ4)) w.heap.size (.slice none 0 0) (.slice none 0 0) (.slice none 0 0) (.slice none 0 0)/\(w.alloc (zQ4)).heap.size=w.heap.size+1):=⟨hB.kept (fun k hk=>(zQ w (zQ4)).block k (by omega)),by simp;omega,zQ _ _,Bx.new w _ _ _ _ _,by simp⟩
 clear hB
 go_enter Tryz.func43,Tryz.ntmps43
 go_wp2_with fail
 generalize w.alloc (zQ4)=W2 at *
 refine (l1New_any W0 len cap a0 W2 C0.out.1 C0.out.2.1 ln).mono ?_
 rintro e w1 ⟨rfl,hc1,hg1⟩
 have C1:Hid (Cur w1 W0 W2.heap.size a0 len cap/\Below w.heap.size w w1/\Bx w1 w.heap.size (.slice none 0 0) (.slice none 0 0) (.slice none 0 0) (.slice none 0 0)/\W2.heap.size=w.heap.size+1/\W2.heap.size<w1.heap.size):=⟨hc1,C0.out.2.2.1.trans ((below_of_grown hg1).mono C0.out.2.2.1.size),C0.out.2.2.2.1.below (below_of_grown hg1),C0.out.2.2.2.2,hc1.lt⟩
 clear hc1 hg1 C0
 generalize W2.heap.size=c at *
 go_wp2_with fail
 refine (l6Draw_any W0 c len cap a0 w1 C1.out.1).mono ?_
 rintro e w2 ⟨x,B,T,rfl,hm,hX,hc2,hg2,hcB,hT⟩
 have DA:Hid (DW w (w2.alloc (oQ4 x.pa x.pn x.pc x.sa x.sn x.sc x.wa x.wn x.wc x.ha x.hn x.hc)) W0 c a0 len cap w.heap.size w2.heap.size B T x):=by
  have hs:=hg2.size
  have h1:=C1.out.2.2.2.1
  have h2:=C1.out.2.2.2.2
  refine ⟨hc2.alloc _,(Below.grown C1.out.2.1 hg2 C1.out.2.1.size (fun k hk=>by cases hk;omega)).trans ((zQ _ _).mono (by have:=C1.out.2.1.size;omega)),hX.keep (by simp) fun b _ _ hl=>(zQ w2 _).block b hl,(C1.out.2.2.1.grown hg2 (by simp;omega)).below (zQ _ _),Bx.new _ _ _ _ _ _,Nat.le_refl _,by omega,hcB,by omega,hT⟩
 have HM:Hid x.y.Sm:=hm
 clear hX hc2 hg2 hcB hT C1 hm
 go_wp2_with fail
 generalize w2.alloc (oQ4 x.pa x.pn x.pc x.sa x.sn x.sc x.wa x.wn x.wc x.ha x.hn x.hc)=wA at *
 generalize w2.heap.size=M at *
 obtain ⟨⟨x0,x1,x2,x3⟩,xf⟩:=DA.out.b2
 obtain ⟨⟨z0,z1,z2,z3⟩,-⟩:=DA.out.b6
 have HG:Hid (∀ w',wA.drew.grownBy w' (some c)->SysG w' x):=fun w' g=>DA.out.g w' ⟨g.os,g.tape,g.output,g.size,g.block⟩
 go_region_law (refine step_call rfl 40 _ _ rfl #[.pointer (some ⟨c,0,none⟩),x.v] (by simp [Act.eval,SysIn.v,sysV]) (yA Tryz.func40 (by kernel_rfl) rfl) (l8DrawCut_any W0 c len cap a0 x wA.drew DA.out.cu.drew HG.out HM.out) ?_;rintro e w3 ⟨v3,xs,rfl,o3,l3,hc3,hg3⟩;obtain ⟨a3,c3,rfl,-⟩:=o3.form;refine ⟨_,rfl,?_⟩;have D3:Hid (DW w w3 W0 c a0 len cap w.heap.size M B T x/\OwnI w3 wA.heap.size (.slice a3 xs.length c3) xs/\xs.length<=20/\w.heap.size<wA.heap.size):=⟨DA.out.draw hc3 ⟨hg3.os,hg3.tape,hg3.output,hg3.size,hg3.block⟩,o3,l3,by have:=DA.out.sz;have:=DA.out.cu.lt;omega⟩;obtain ⟨⟨r0,r1,r2,r3⟩,rf⟩:=D3.out.1.b2;obtain ⟨⟨s0,s1,s2,s3⟩,-⟩:=D3.out.1.b6;clear hc3 hg3 o3 l3)
 all_goals
  clear x0 x1 x2 x3 xf z0 z1 z2 z3 s0 s1 s2 s3 DA HG
  go_wp2
  refine bodyPost_ret (v:=.tuple #[x.v,.slice a3 xs.length c3]) (by simp [results,Tryz.results43,go_sem,r0,r1,r2,r3]) rfl ⟨x,a3,c3,xs,B,T,rfl,HM.out,D3.out.1.set4 _ _ _ _,?_,?_,?_,(OwnI.set4 D3.out.2.1 D3.out.2.2.2 _ _ _ _).mono (Nat.le_of_lt D3.out.2.2.2),D3.out.2.2.1⟩
  ·have:=D3.out.1.sz
   omega
  ·have:=D3.out.1.sz
   have:=D3.out.1.b6.lt
   simp
   omega
  ·exact (((D3.out.1.be.setCell (Nat.le_refl _) _).setCell (Nat.le_refl _) _).setCell (Nat.le_refl _) _).setCell (Nat.le_refl _) _
theorem DrawCutOk_any (W0 len cap:Nat) (a0:Option Addr) (w:World) (hB:BytesAt w W0 a0 len) (hW:W0<=w.heap.size) (ln:len<=1048576):
  Calls Tryz.prog 10 #[.slice a0 len cap] w fun e w'=>∃ (x:SysIn) (a:Option Addr) (cp:Nat) (xs:List Int),e=.returned (.tuple #[x.v,.slice a xs.length cp])/\Below w.heap.size w w'/\OwnI w' w.heap.size (.slice a xs.length cp) xs/\xs.length<=20:=by
 have C0:Hid (BytesAt (w.alloc (zQ4)) W0 a0 len/\W0<=(w.alloc (zQ4)).heap.size/\Below w.heap.size w (w.alloc (zQ4))/\Bx (w.alloc (zQ4)) w.heap.size (.slice none 0 0) (.slice none 0 0) (.slice none 0 0) (.slice none 0 0)/\(w.alloc (zQ4)).heap.size=w.heap.size+1):=⟨hB.kept fun k hk=>(zQ w _).block k (by omega),by simp;omega,zQ _ _,Bx.new w _ _ _ _ _,by simp⟩
 clear hB hW
 go_enter Tryz.func10,Tryz.ntmps10
 go_wp2_with fail
 generalize w.alloc (zQ4)=W2 at *
 refine (l8DrawBoth_any W0 len cap a0 W2 C0.out.1 C0.out.2.1 ln).mono ?_
 rintro e w1 ⟨x,a,cp,xs,B,T,rfl,-,-,-,-,b1,o1,l1⟩
 have F1:Hid (Below w.heap.size w (w1.alloc (oQ4 x.pa x.pn x.pc x.sa x.sn x.sc x.wa x.wn x.wc x.ha x.hn x.hc))/\Bx (w1.alloc (oQ4 x.pa x.pn x.pc x.sa x.sn x.sc x.wa x.wn x.wc x.ha x.hn x.hc)) w.heap.size (.slice none 0 0) (.slice none 0 0) (.slice none 0 0) (.slice none 0 0)/\OwnI (w1.alloc (oQ4 x.pa x.pn x.pc x.sa x.sn x.sc x.wa x.wn x.wc x.ha x.hn x.hc)) W2.heap.size (.slice a xs.length cp) xs/\xs.length<=20/\w.heap.size<W2.heap.size/\Bx (w1.alloc (oQ4 x.pa x.pn x.pc x.sa x.sn x.sc x.wa x.wn x.wc x.ha x.hn x.hc)) w1.heap.size (.slice x.pa x.pn x.pc) (.slice x.sa x.sn x.sc) (.slice x.wa x.wn x.wc) (.slice x.ha x.hn x.hc)):=⟨(C0.out.2.2.1.trans (b1.mono C0.out.2.2.1.size)).trans ((zQ _ _).mono (zP C0.out.2.2.1.size b1.size)),(C0.out.2.2.2.1.below b1).below (zQ _ _),o1.below (zQ _ _),l1,by have:=C0.out.2.2.2.2;omega,Bx.new _ _ _ _ _ _⟩
 clear b1 o1 l1 C0
 go_upto_region 2 with fail
 generalize w1.alloc (oQ4 x.pa x.pn x.pc x.sa x.sn x.sc x.wa x.wn x.wc x.ha x.hn x.hc)=wA at *
 generalize w1.heap.size=M at *
 obtain ⟨⟨r0,r1,r2,r3⟩,rf⟩:=F1.out.2.1
 obtain ⟨⟨s0,s1,s2,s3⟩,-⟩:=F1.out.2.2.2.2.2
 go_wp2
 refine bodyPost_ret (v:=.tuple #[x.v,.slice a xs.length cp]) (by simp [results,Tryz.results10,go_sem,r0,r1,r2,r3]) rfl ⟨x,a,cp,xs,rfl,(((F1.out.1.setCell (Nat.le_refl _) _).setCell (Nat.le_refl _) _).setCell (Nat.le_refl _) _).setCell (Nat.le_refl _) _,(OwnI.set4 F1.out.2.2.1 F1.out.2.2.2.2.1 _ _ _ _).mono (Nat.le_of_lt F1.out.2.2.2.2.1),F1.out.2.2.2.1⟩
theorem DW.alloc {w wr:World} {W0 c len cap N M B T:Nat} {a0:Option Addr} {x:SysIn} (h:DW w wr W0 c a0 len cap N M B T x) (o:Obj):DW w (wr.alloc o) W0 c a0 len cap N M B T x:=h.draw (h.cu.alloc o) (World.grownBy_alloc _ _ _)
structure WJ (w wr:World) (X:Nat) (x:SysIn):Prop where
 g:SysG wr x
 bx:BoxC wr X (.slice x.pa x.pn x.pc) (.slice x.sa x.sn x.sc) (.slice x.wa x.wn x.wc) (.slice x.ha x.hn x.hc)
 be:Below w.heap.size w wr
theorem WJ.below {w wr w':World} {X:Nat} {x:SysIn} (h:WJ w wr X x) (hb:Below wr.heap.size wr w'):WJ w w' X x:=⟨h.g.below hb,h.bx.below hb,h.be.trans (hb.mono h.be.size)⟩
theorem WJ.lt {w wr:World} {X:Nat} {x:SysIn} (h:WJ w wr X x):X<wr.heap.size:=zJ wr _ h.bx.1
