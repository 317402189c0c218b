import Derived.Test.YtkchlgmeinfeaaaGreatDoorMn25
import Derived.Test.YtkchlgmeinfeaaaGreatDoorMn27
namespace Go.Proofs.YtkchlgmeinfeaaaGreatDoor
open Go.Proofs.Tryz
set_option maxRecDepth 100000
set_option maxHeartbeats 20000000
open Go.RowKit Go.Deep
theorem OwnI.grown {w w':World} {B c:Nat} {v:Value} {xs:List Int} (h:OwnI w B v xs) (g:w.grownBy w' (some c)) (hc:c<B):OwnI w' B v xs:=by
 refine h.kept g ?_;cases hv:v.ownBlock with
 | none=>exact .inl rfl
 | some k=>exact .inr (fun e=>by have:=(h.lt k hv).1;injection e;omega)
structure CD (w wr:World) (W0 c:Nat) (a0:Option Addr) (len cap:Nat) (x:SysIn) (v:Value) (xs:List Int):Prop where
 cu:Cur wr W0 c a0 len cap
 gr:w.grownBy wr (some c)
 bx:x.bX wr w.heap.size
 ow:OwnI wr (w.heap.size+1) v xs
 lt:c<w.heap.size/\w.heap.size+1<=wr.heap.size
section
variable {w wr w':World} {W0 c len cap:Nat} {a0:Option Addr} {x:SysIn} {v:Value} {xs:List Int}
theorem BoxC.blkC {w w':World} {N:Nat} {p a b q:Value} (h:BoxC w N p a b q) (hb:w'.heap[N]? = w.heap[N]?):BoxC w' N p a b q:=
 ⟨(zH hb).trans h.1,(zH hb).trans h.2.1,(zH hb).trans h.2.2.1,(zH hb).trans h.2.2.2⟩
theorem CD.draw (h:CD w wr W0 c a0 len cap x v xs) (hc:Cur w' W0 c a0 len cap) (hg:wr.grownBy w' (some c)):CD w w' W0 c a0 len cap x v xs:=
 ⟨hc,h.gr.trans hg,h.bx.blkC (hg.block _ h.lt.2 (fun e=>by have:=h.lt.1;injection e;omega)),h.ow.grown hg (by have:=h.lt.1;omega),h.lt.1,zP h.lt.2 hg.size⟩
theorem CD.next (h:CD w wr W0 c a0 len cap x v xs) {v':Value} {ys:List Int} (hb:Below (w.heap.size+1) wr w') (ho:OwnI w' (w.heap.size+1) v' ys):CD w w' W0 c a0 len cap x v' ys:=by
 have hl:=h.lt;have g:wr.grownBy w' (some w'.heap.size)->True:=fun _=>trivial;refine ⟨?_,⟨hb.os.trans h.gr.os,hb.tape.trans h.gr.tape,hb.output.trans h.gr.output,zP h.gr.size hb.size,fun k hk hne=>(hb.block k (by omega)).trans (h.gr.block k hk hne)⟩,h.bx.blkC (hb.block _ (by omega)),ho,hl.1,zP hl.2 hb.size⟩;have hcc:=h.cu;have hblk:w'.heap[c]? = wr.heap[c]?:=hb.block c (by omega);exact ⟨hcc.ex.imp fun i=>fun ⟨z,e⟩=>⟨z,(zH hblk).trans e.1,(zH hblk).trans e.2.1,(zH hblk).trans e.2.2⟩,fun o=>(zI hblk).trans (hcc.fr o),by have:=hb.size;omega,hcc.ge,hcc.by'.kept fun k hk=>hb.block k (by have:=hcc.ge;omega),hcc.ln⟩
end
def DrwC (w:World) (W0 c:Nat) (a0:Option Addr) (len cap:Nat) (e:Ending) (w':World):Prop:=∃ v xs,e=.returned v/\OwnI w' w.heap.size v xs/\xs.length<=20/\Cur w' W0 c a0 len cap/\w.grownBy w' (some c)
theorem qjn (W0 c len cap:Nat) (a0:Option Addr) (x:SysIn) (w:World) (hc:Cur w W0 c a0 len cap) (hX:∀ w',w.grownBy w' (some c)->SysG w' x) (hm:x.y.Sm):
  Calls prog 44 #[.pointer (some (aQ c 0)),x.v] w (DrwC w W0 c a0 len cap):=by
 have HX:Hid (∀ w',w.grownBy w' (some c)->SysG w' x):=hX;have HM:Hid (x.hn<=16/\∀ i,i<x.hn->x.hL i<=1000):=⟨hm.n.2.2.2,hm.h⟩
 have hn':(x.hn:Int)<=16:=by have:x.hn<=16:=hm.n.2.2.2;omega
 have C0:Hid (CD w ((w.alloc (x.oX)).alloc (.cells #[] 3)) W0 c a0 len cap x (.slice (some ⟨w.heap.size+1,0,none⟩) 0 0) []):=by
  have hcl:=hc.lt;have h1:=BoxC.new w (.slice x.pa x.pn x.pc) (.slice x.sa x.sn x.sc) (.slice x.wa x.wn x.wc) (.slice x.ha x.hn x.hc) 29;have b2:=zQ (w.alloc (x.oX)) (.cells #[] 3);have ho:=World.ownsRow_made (base:=w.heap.size+1) (e:=3) (size:=1) (w.alloc (x.oX)) #[] 0 (by simp) (by unfold maxLen;omega) (by simp);simp only [World.size_alloc] at ho;exact ⟨(hc.alloc _).alloc _,(World.grownBy_alloc _ _ _).trans (World.grownBy_alloc _ _ _),h1.bw b2,ho,hcl,by simp⟩
 clear hc hX hm
 go_enter func44,ntmps44
 go_wp2_with fail
 generalize (w.alloc (x.oX)).alloc (.cells #[] 3)=wA at *
 go_loopw [5,6] (fun u i wr=>∃ (j:Nat) (a:Option Addr) (cp:Nat) (xs:List Int),j<=x.hn/\i=.int .i64 j/\u=.slice a j cp/\Hid (CD w wr W0 c a0 len cap x (.slice a j cp) xs/\xs.length=j)) (fun _ i _=>x.hn - (intOf i).toNat)
 case atStart=>exact ⟨0,_,_,[],nD _,rfl,rfl,C0.out,rfl⟩
 case round=>
  clear C0;obtain ⟨j,a,cp,xs,hj,rfl,rfl,HC⟩:=hrel;have p3:=HC.1.bx.2.2.2;by_cases hlt:j<x.hn
  ·have hlt':(j:Int)<(x.hn:Int):=by omega
   obtain ⟨b,off,ea,ch⟩:=(HX.out wr HC.1.gr).h.at hlt;rw [ea] at p3;clear ea;have hll:(x.hL j:Int)<=1000:=by have:=HM.2 j hlt;omega
   go_wp2_with fail
   clear p3 ch;refine (qbt W0 c len cap a0 2 wr HC.1.cu (by omega) (by omega)).mono ?_;rintro e w1 ⟨t,rfl,c1,g1⟩;have C1:Hid (CD w w1 W0 c a0 len cap x (.slice a j cp) xs/\xs.length=j):=⟨HC.1.draw c1 g1,HC.2⟩
   clear c1 g1 HC;cases t
   ·go_wp2_with (at_builtin;refine qbx w1 rfl rfl _ _ rfl (w.heap.size+1) (.slice a j cp) xs rfl C1.1.ow (x.hL j:Int) rfl (by have:=C1.2;omega) C1.1.lt.2 ?_;intro v5 w5 o5 b5;obtain ⟨a5,c5,rfl,-⟩:=o5.form;have h8:(xs ++ [(x.hL j:Int)]).length=j+1:=(by simp [C1.2]);have h9:=C1.1.next b5 o5;have C5:Hid (CD w w5 W0 c a0 len cap x (.slice a5 (j+1) c5) (xs ++ [(x.hL j:Int)])/\(xs ++ [(x.hL j:Int)]).length=j+1):=⟨(show CD w w5 W0 c a0 len cap x (.slice a5 (j+1) c5) (xs ++ [(x.hL j:Int)]) from h8 ▸ h9),h8⟩;clear o5 b5 h8 h9)
    go_roundw
    case rel=>exact ⟨j+1,a5,c5,_,by omega,by go_num,by first | rfl | (rw [C1.2]),C5.out⟩
    case measure=>simp [intOf];omega
   ·go_wp2_with fail
    refine (qk7 W0 c len cap a0 ((x.hL j:Int)+1) w1 C1.1.cu (by omega) (by omega)).mono ?_;rintro e w2 ⟨z,rfl,hz,c2,g2⟩;have C2:Hid (CD w w2 W0 c a0 len cap x (.slice a j cp) xs/\xs.length=j):=⟨C1.1.draw c2 g2,C1.2⟩
    clear c2 g2 C1;go_wp2_with (at_builtin;refine qbx w2 rfl rfl _ _ rfl (w.heap.size+1) (.slice a j cp) xs rfl C2.1.ow z rfl (by have:=C2.2;omega) C2.1.lt.2 ?_;intro v5 w5 o5 b5;obtain ⟨a5,c5,rfl,-⟩:=o5.form;have h8:(xs ++ [z]).length=j+1:=(by simp [C2.2]);have h9:=C2.1.next b5 o5;have C5:Hid (CD w w5 W0 c a0 len cap x (.slice a5 (j+1) c5) (xs ++ [z])/\(xs ++ [z]).length=j+1):=⟨(show CD w w5 W0 c a0 len cap x (.slice a5 (j+1) c5) (xs ++ [z]) from h8 ▸ h9),h8⟩;clear o5 b5 h8 h9)
    go_roundw
    case rel=>exact ⟨j+1,a5,c5,_,by omega,by go_num,by first | rfl | (rw [C2.2]),C5.out⟩
    case measure=>simp [intOf];omega
  ·have hjn:j<=16:=by omega
   have hjn':(j:Int)<=16:=by omega
   go_wp2_with fail
   clear p3;refine (zY W0 c len cap a0 15 wr HC.1.cu (by omega) (by omega)).mono ?_;rintro e w1 ⟨z,rfl,hz,c1,g1⟩;have C1:Hid (CD w w1 W0 c a0 len cap x (.slice a j cp) xs/\xs.length=j):=⟨HC.1.draw c1 g1,HC.2⟩
   clear c1 g1 HC;by_cases z0:z=0
   ·subst z0
    go_wp2_with (at_builtin;refine qbx w1 rfl rfl _ _ rfl (w.heap.size+1) (.slice a j cp) xs rfl C1.1.ow 0 rfl (by have:=C1.2;omega) C1.1.lt.2 ?_;intro v5 w5 o5 b5;obtain ⟨a5,c5,rfl,-⟩:=o5.form;have C5:Hid (CD w w5 W0 c a0 len cap x (.slice a5 (xs ++ [(0:Int)]).length c5) (xs ++ [(0:Int)])/\(xs ++ [(0:Int)]).length<=20):=⟨C1.1.next b5 o5,by have:=C1.2;simp;omega⟩;clear o5 b5)
    refine bodyPost_ret (v:=.slice a5 (xs ++ [(0:Int)]).length c5) (by simp [results,results44,go_sem]) rfl ⟨_,_,rfl,C5.1.ow.mono (by omega),C5.2,C5.1.cu,C5.1.gr⟩
   by_cases z1:z=1
   ·subst z1
    by_cases hj0:j=0
    ·subst hj0
     go_wp2;refine bodyPost_ret (v:=.slice a 0 cp) (by simp [results,results44,go_sem]) rfl ⟨_,xs,rfl,C1.1.ow.mono (by omega),by have:=C1.2;omega,C1.1.cu,C1.1.gr⟩
    ·have hj0':(j:Int) > 0:=by omega
     have CA:Hid (CD w (w1.alloc (.cells #[iV (-1),iV 300] 3)) W0 c a0 len cap x (.slice a j cp) xs/\xs.length=j/\qij (w1.alloc (.cells #[iV (-1),iV 300] 3)) w1.heap.size 2 (fun i=>if i=0 then -1 else 300)/\w1.heap.size≠c/\w1.heap.size<(w1.alloc (.cells #[iV (-1),iV 300] 3)).heap.size):=by
      have hl:=C1.1.lt;refine ⟨C1.1.draw (C1.1.cu.alloc _) (World.grownBy_alloc _ _ _),C1.2,fun i hi=>?_,by omega,by simp⟩
      match i,hi with
      | 0,_=>exact zW _ _ _ 0 rfl
      | 1,_=>exact zW _ _ _ 1 rfl
     go_wp2_with fail
     generalize w1.alloc (.cells #[iV (-1),iV 300] 3)=wB at *;refine (qds W0 c len cap w1.heap.size 2 2 a0 _ wB CA.1.cu (by omega) (by omega) CA.2.2.2.2 CA.2.2.2.1 CA.2.2.1).mono ?_;rintro e w3 ⟨z3,rfl,c3,g3⟩;have C3:Hid (CD w w3 W0 c a0 len cap x (.slice a j cp) xs/\xs.length=j):=⟨CA.1.draw c3 g3,CA.2.1⟩
     clear c3 g3 CA C1;have ho:=C3.1.ow;rw [<- C3.2] at ho;obtain ⟨g,cp',ev,hg,hgl⟩:=ho.block (by have:=C3.2;omega);simp only [Value.slice.injEq,true_and] at ev;obtain ⟨rfl,rfl⟩:=ev;have q0:=ho.cell (j:=0) (by have:=C3.2;omega);have fz:=fun i=>ho.frozen i;have hs:=(ho.set rfl 0 z3)
     have C4:Hid (CD w (w3.setCell (aQ g 0) (iV z3)) W0 c a0 len cap x (sG g xs.length cp) (xs.set 0 z3)/\xs.length=j):=by
      refine ⟨C3.1.next ⟨rfl,rfl,rfl,by simp,fun k hk=>zO _ _ _ _ (by show k≠g;omega)⟩ hs.1,C3.2⟩
     clear hs ho;go_wp2;refine bodyPost_ret (v:=.slice (some ⟨g,0,none⟩) j cp) (by simp [results,results44,go_sem]) rfl ⟨_,xs.set 0 z3,rfl,by have h9:=C4.1.ow.mono (show w.heap.size<=w.heap.size+1 by omega);rw [C4.2] at h9;exact h9,by have:=C4.2;simp;omega,C4.1.cu,C4.1.gr⟩
   ·have z0':(z == 0)=false:=by simp [z0]
    have z1':(z == 1)=false:=by simp [z1]
    go_wp2;refine bodyPost_ret (v:=.slice a j cp) (by simp [results,results44,go_sem]) rfl ⟨_,xs,rfl,C1.1.ow.mono (by omega),by have:=C1.2;omega,C1.1.cu,C1.1.gr⟩
section
variable {w wr w':World} {W0 c len cap N M B T:Nat} {a0:Option Addr} {x:SysIn}
theorem DW.on (h:DW w wr W0 c a0 len cap N M B T x) (hb:Bw wr w'):DW w w' W0 c a0 len cap N M B T x:=
 ⟨h.cu.kept (zZ hb) (by simp) (fun _ h=>by cases h),h.be.trans (hb.mono h.be.size),h.sx.keep hb.size fun b _ _ hl=>hb.block b hl,h.b2.bw hb,h.b6.bw hb,h.sz⟩
theorem DW.g (h:DW w wr W0 c a0 len cap N M B T x):∀ w',wr.grownBy w' (some c)->SysG w' x:=fun w' g=>h.sx.g w' fun b hb _ hl=>g.block b hl (fun e=>by have:=h.sz;injection e;omega)
end
def DrwH (w:World) (e:Ending) (w':World):Prop:=∃ (x:SysIn) (a:Option Addr) (cp:Nat) (xs:List Int) (B T:Nat),e=.returned (.tuple #[x.v,.slice a xs.length cp])/\x.y.Sm/\SysX w' B T x/\w.heap.size<=B/\T<=w'.heap.size/\Bw w w'/\OwnI w' w.heap.size (.slice a xs.length cp) xs/\xs.length<=20
theorem OwnI.set4 {w:World} {xs:List Int} {B N:Nat} {v:Value} (o:OwnI w B v xs) (hN:N<B) (u0 u1 u2 u3:Value):OwnI ((((w.setCell (aQ N 0) u0).setCell (aQ N 1) u1).setCell (aQ N 2) u2).setCell (aQ N 3) u3) B v xs:=o.blk fun k hk=>by
 have hne:k≠N:=by have:=(o.lt k hk).1;omega
 rw [zO _ _ _ _ hne,zO _ _ _ _ hne,zO _ _ _ _ hne,zO _ _ _ _ hne]
theorem qix (W0 len cap:Nat) (a0:Option Addr) (w:World) (hB:qb9 w W0 a0 len) (hW:W0<=w.heap.size) (ln:len<=1048576):
  Calls prog 18 #[.slice a0 len cap] w (DrwH w):=by
 have C0:Hid (qb9 (w.alloc (zQ3)) W0 a0 len/\W0<=(w.alloc (zQ3)).heap.size/\Bw w (w.alloc (zQ3))/\Bx (w.alloc (zQ3)) w.heap.size nS nS nS nS/\(w.alloc (zQ3)).heap.size=w.heap.size+1):=⟨hB.kept (fun k hk=>(zQ w (zQ3)).block k (by omega)),by simp;omega,zQ _ _,Bx.new w _ _ _ _ _,by simp⟩
 clear hB
 go_enter func18,ntmps18
 go_wp2_with fail
 generalize w.alloc (zQ3)=W2 at *;refine (qq5 W0 len cap a0 W2 C0.1 C0.2.1 ln).mono ?_;rintro e w1 ⟨rfl,hc1,hg1⟩;have C1:Hid (Cur w1 W0 W2.heap.size a0 len cap/\Bw w w1/\Bx w1 w.heap.size nS nS nS nS/\W2.heap.size=w.heap.size+1/\W2.heap.size<w1.heap.size):=⟨hc1,C0.2.2.1.trans ((qdc hg1).mono C0.2.2.1.size),C0.2.2.2.1.bw (qdc hg1),C0.2.2.2.2,hc1.lt⟩
 clear hc1 hg1 C0;generalize W2.heap.size=c at *;go_wp2_with fail
 refine (qpi W0 c len cap a0 w1 C1.1).mono ?_;rintro e w2 ⟨x,B,T,rfl,hm,hX,hc2,hg2,hcB,hT⟩
 have DA:Hid (DW w (w2.alloc (x.oX)) W0 c a0 len cap w.heap.size w2.heap.size B T x):=by
  have hs:=hg2.size;have h1:=C1.2.2.2.1;have h2:=C1.2.2.2.2;refine ⟨hc2.alloc _,(Below.grown C1.2.1 hg2 C1.2.1.size (fun k hk=>by cases hk;omega)).trans ((zQ _ _).mono (by have:=C1.2.1.size;omega)),hX.keep (by simp) fun b _ _ hl=>(zQ w2 _).block b hl,(C1.2.2.1.grown hg2 (by simp;omega)).bw (zQ _ _),Bx.new _ _ _ _ _ _,nA _,by omega,hcB,by omega,hT⟩
 have HM:Hid x.y.Sm:=hm;clear hX hc2 hg2 hcB hT C1 hm;go_wp2_with fail
 generalize w2.alloc (x.oX)=wA at *;generalize w2.heap.size=M at *;obtain ⟨⟨z0,z1,z2,z3⟩,-⟩:=DA.b6;go_wp2_with fail
 clear z0 z1 z2 z3;refine (qjn W0 c len cap a0 x wA DA.cu DA.g HM.out).mono ?_;rintro e w3 ⟨v3,xs,rfl,o3,l3,hc3,hg3⟩;obtain ⟨a3,c3,rfl,-⟩:=o3.form;have D3:Hid (DW w w3 W0 c a0 len cap w.heap.size M B T x/\OwnI w3 wA.heap.size (.slice a3 xs.length c3) xs/\xs.length<=20/\c<wA.heap.size/\w.heap.size<wA.heap.size):=⟨DA.draw hc3 hg3,o3,l3,DA.cu.lt,by have:=DA.sz;have:=DA.cu.lt;omega⟩
 clear o3 l3 hc3 hg3 DA;obtain ⟨⟨z0,z1,z2,z3⟩,-⟩:=D3.1.b6;go_wp2_with fail
 clear z0 z1 z2 z3
 have HSl:Hid (Sl w3 a3 xs):=by
  obtain ⟨a',c',e,s⟩:=D3.2.1.form;simp only [Value.slice.injEq] at e;rw [e.1];exact s
 refine (qfy x a3 c3 xs w3 D3.1.sx.self HM.inLen D3.1.sx.cap HSl.out (by have:=D3.2.2.1;omega)).mono ?_;rintro e w4 ⟨rfl,b4⟩;have D4:Hid (DW w w4 W0 c a0 len cap w.heap.size M B T x/\OwnI w4 wA.heap.size (.slice a3 xs.length c3) xs/\xs.length<=20/\c<wA.heap.size/\w.heap.size<wA.heap.size):=⟨D3.1.on b4,D3.2.1.bw b4,D3.2.2⟩
 clear b4 D3 HSl;generalize ht:cutB x.y xs=t;have HT:Hid (cutB x.y xs=t):=ht;clear ht;cases t
 ·obtain ⟨⟨r0,r1,r2,r3⟩,rf⟩:=D4.1.b2
  obtain ⟨⟨z0,z1,z2,z3⟩,-⟩:=D4.1.b6;go_wp2;refine bodyPost_ret (v:=.tuple #[x.v,.slice a3 xs.length c3]) (by simp [results,results18,go_sem,r0,r1,r2,r3]) rfl ⟨x,a3,c3,xs,B,T,rfl,HM.out,D4.1.set4 _ _ _ _,?_,?_,?_,(OwnI.set4 D4.2.1 D4.2.2.2.2 _ _ _ _).mono (nJ D4.2.2.2.2),D4.2.2.1⟩
  ·have:=D4.1.sz
   omega
  ·have:=D4.1.sz
   have:=D4.1.b6.lt;simp;omega
  ·exact (((D4.1.be.setCell (nA _) _).setCell (nA _) _).setCell (nA _) _).setCell (nA _) _
 go_wp2_with fail
 refine (qbt W0 c len cap a0 2 w4 D4.1.cu (by omega) (by omega)).mono ?_;rintro e w5 ⟨t5,rfl,hc5,hg5⟩;have D5:Hid (DW w w5 W0 c a0 len cap w.heap.size M B T x/\OwnI w5 wA.heap.size (.slice a3 xs.length c3) xs/\xs.length<=20/\c<wA.heap.size/\w.heap.size<wA.heap.size):=⟨D4.1.draw hc5 hg5,D4.2.1.grown hg5 D4.2.2.2.1,D4.2.2⟩
 clear hc5 hg5 D4;cases t5
 ·obtain ⟨⟨r0,r1,r2,r3⟩,rf⟩:=D5.1.b2
  obtain ⟨⟨z0,z1,z2,z3⟩,-⟩:=D5.1.b6;go_wp2;refine bodyPost_ret (v:=.tuple #[x.v,.slice a3 xs.length c3]) (by simp [results,results18,go_sem,r0,r1,r2,r3]) rfl ⟨x,a3,c3,xs,B,T,rfl,HM.out,D5.1.set4 _ _ _ _,?_,?_,?_,(OwnI.set4 D5.2.1 D5.2.2.2.2 _ _ _ _).mono (nJ D5.2.2.2.2),D5.2.2.1⟩
  ·have:=D5.1.sz
   omega
  ·have:=D5.1.sz
   have:=D5.1.b6.lt;simp;omega
  ·exact (((D5.1.be.setCell (nA _) _).setCell (nA _) _).setCell (nA _) _).setCell (nA _) _
 obtain ⟨⟨z0,z1,z2,z3⟩,-⟩:=D5.1.b6;go_wp2_with fail
 clear z0 z1 z2 z3
 have HSl:Hid (Sl w5 a3 xs):=by
  obtain ⟨a',c',e,s⟩:=D5.2.1.form;simp only [Value.slice.injEq] at e;rw [e.1];exact s
 refine (qm2 x a3 c3 xs w5 D5.1.sx.self D5.1.sx.cap HT.out HSl.out).mono ?_;rintro e w6 ⟨v6,rfl,o6,b6⟩;obtain ⟨a6,c6,rfl,-⟩:=o6.form;have D6:Hid (DW w w6 W0 c a0 len cap w.heap.size M B T x/\OwnI w6 w5.heap.size (.slice a6 (clS x.y xs).length c6) (clS x.y xs)/\(clS x.y xs).length<=20/\w.heap.size<w5.heap.size):=⟨D5.1.on b6,o6,by have:=qvc x.y xs;omega,by have:=D5.1.sz;have:=D5.1.b6.lt;omega⟩
 clear o6 b6 D5 HSl;generalize clS x.y xs=ys at *;obtain ⟨⟨r0,r1,r2,r3⟩,rf⟩:=D6.1.b2;obtain ⟨⟨z0,z1,z2,z3⟩,-⟩:=D6.1.b6;go_wp2;refine bodyPost_ret (v:=.tuple #[x.v,.slice a6 ys.length c6]) (by simp [results,results18,go_sem,r0,r1,r2,r3]) rfl ⟨x,a6,c6,ys,B,T,rfl,HM.out,D6.1.set4 _ _ _ _,?_,?_,?_,(OwnI.set4 D6.2.1 D6.2.2.2 _ _ _ _).mono (nJ D6.2.2.2),D6.2.2.1⟩
 ·have:=D6.1.sz
  omega
 ·have:=D6.1.sz
  have:=D6.1.b6.lt;simp;omega
 ·exact (((D6.1.be.setCell (nA _) _).setCell (nA _) _).setCell (nA _) _).setCell (nA _) _
theorem qor (W0 len cap:Nat) (a0:Option Addr) (w:World) (hB:qb9 w W0 a0 len) (hW:W0<=w.heap.size) (ln:len<=1048576):
  Calls prog 5 #[.slice a0 len cap] w (DrwH w):=by
 have C0:Hid (qb9 (w.alloc (zQ3)) W0 a0 len/\W0<=(w.alloc (zQ3)).heap.size/\Bw w (w.alloc (zQ3))/\Bx (w.alloc (zQ3)) w.heap.size nS nS nS nS/\(w.alloc (zQ3)).heap.size=w.heap.size+1):=⟨hB.kept (fun k hk=>(zQ w (zQ3)).block k (by omega)),by simp;omega,zQ _ _,Bx.new w _ _ _ _ _,by simp⟩
 clear hB
 go_enter func5,ntmps5
 go_wp2_with fail
 generalize w.alloc (zQ3)=W2 at *;refine (qix W0 len cap a0 W2 C0.1 C0.2.1 ln).mono ?_;rintro e w2 ⟨x,ca,cp,xs,B,T,rfl,hm,hX,hBl,hT,hb,hO,hn⟩;have HM:Hid x.y.Sm:=hm
 have F:Hid (SysX (w2.alloc (x.oX)) B T x/\Bx (w2.alloc (x.oX)) w.heap.size nS nS nS nS/\Bx (w2.alloc (x.oX)) w2.heap.size (.slice x.pa x.pn x.pc) (.slice x.sa x.sn x.sc) (.slice x.wa x.wn x.wc) (.slice x.ha x.hn x.hc)/\Bw w (w2.alloc (x.oX))/\w.heap.size<B/\T<=w2.heap.size/\OwnI (w2.alloc (x.oX)) (w.heap.size+1) (.slice ca xs.length cp) xs):=by
  have h1:=C0.2.2.2.2;have h2:=hb.size;exact ⟨hX.keep (by simp) fun b _ _ hl=>(zQ w2 _).block b hl,(C0.2.2.2.1.bw hb).bw (zQ _ _),Bx.new _ _ _ _ _ _,(C0.2.2.1.trans (hb.mono (by omega))).trans ((zQ _ _).mono (by omega)),by omega,hT,by have h9:=hO.bw (zQ w2 (x.oX));rw [h1] at h9;exact h9⟩
 clear hX hBl hT hb hm hO C0;go_upto_region 2 with fail
 generalize w2.alloc (x.oX)=wA at *;generalize w2.heap.size=M at *;obtain ⟨⟨x0,x1,x2,x3⟩,xf⟩:=F.2.1;obtain ⟨⟨z0,z1,z2,z3⟩,-⟩:=F.2.2.1;go_wp2;refine bodyPost_ret (v:=.tuple #[x.v,.slice ca xs.length cp]) (by simp [results,results5,go_sem,x0,x1,x2,x3]) rfl ⟨x,ca,cp,xs,B,T,rfl,HM.out,?_,nJ F.2.2.2.2.1,?_,?_,?_,hn⟩
 ·exact F.1.keep (by simp) fun b hb _ _=>by
   have:=F.2.2.2.2.1;rw [zO _ _ _ _ (by show b≠w.heap.size;omega),zO _ _ _ _ (by show b≠w.heap.size;omega),zO _ _ _ _ (by show b≠w.heap.size;omega),zO _ _ _ _ (by show b≠w.heap.size;omega)]
 ·have:=F.2.2.2.2.2.1
  have:=F.2.2.1.lt;simp;omega
 ·exact (((F.2.2.2.1.setCell (nA _) _).setCell (nA _) _).setCell (nA _) _).setCell (nA _) _
 ·have h9:=F.2.2.2.2.2.2.set4 (N:=w.heap.size) (by omega) (.slice x.pa x.pn x.pc) (.slice x.sa x.sn x.sc) (.slice x.wa x.wn x.wc) (.slice x.ha x.hn x.hc)
  exact h9.mono (by omega)
def qcz (e:Ending) (P:Prop):Prop:=∃ t,e=.returned (.bool t)/\(t=true ↔ P)
theorem qcz.yes {P:Prop} (h:P):qcz (.returned (.bool true)) P:=⟨true,rfl,⟨fun _=>h,fun _=>rfl⟩⟩
theorem qcz.no {P:Prop} (h:¬ P):qcz (.returned (.bool false)) P:=⟨false,rfl,⟨fun e=>(by cases e),fun p=>absurd p h⟩⟩
def qo9 (o r a b n o' r' a' b' n':Int):Bool:=o == o' && (r == r' && (a == a' && (b == b' && n == n')))
theorem qqy (a b:I5):qo9 a.o a.r a.a a.b a.n b.o b.r b.a b.b b.n=true ↔ a=b:=by
 cases a;cases b;simp [qo9]
theorem qwv (o r a b n o' r' a' b' n':Int) (w:World):(binOp .neq 85 (.agg #[iV o,iV r,iV a,iV b,iV n]) (.agg #[iV o',iV r',iV a',iV b',iV n'])).run prog w=.ok (.bool (!qo9 o r a b n o' r' a' b' n')) w:=by
 rw [run_neq_struct,show (10000:Nat)=9998+1+1 from rfl,run_equalIn_agg w (9998+1) 85 _ _ (by kernel_rfl) (by kernel_rfl)];simp only [qo9];by_cases h1:o=o' <;> by_cases h2:r=r' <;> by_cases h3:a=a' <;> by_cases h4:b=b' <;> by_cases h5:n=n' <;> simp [go_sem,h1,h2,h3,h4,h5]
theorem qku (b b' n m c d:Nat) (g u:Nat->I5) (w:World) (hn:n<=1048576) (hm:m<=1048576) (hb0:b<w.heap.size) (hb1:b'<w.heap.size) (h0:qan w b 0 n g) (h1:qan w b' 0 m u):
  Calls prog 70 #[.slice (some ⟨b,0,none⟩) n c,.slice (some ⟨b',0,none⟩) m d] w fun e w'=>qcz e (n=m/\∀ i,i<n->g i=u i)/\Bw w w':=by
 have H0:Hid (qan w b 0 n g/\b<w.heap.size):=⟨h0,hb0⟩
 have H1:Hid (qan w b' 0 m u/\b'<w.heap.size):=⟨h1,hb1⟩
 generalize hPP:(n=m/\∀ i,i<n->g i=u i)=PP;have HP:Hid ((n=m/\∀ i,i<n->g i=u i)=PP):=hPP;clear hPP;have hn':(n:Int)<=1048576:=by omega
 have hm':(m:Int)<=1048576:=by omega
 clear h0 h1 hb0 hb1;by_cases hnm:n=m
 case neg=>
  have hnm':¬ ((n:Int)=(m:Int)):=by omega
  go_enter func70,ntmps70
  go_wp2;go_ret;exact ⟨qcz.no fun h=>absurd (HP.mpr h).1 hnm,nE _ _⟩
 subst hnm;have hmm:min n n=n:=Nat.min_self n
 go_enter func70,ntmps70
 go_wp2_with fail
 go_loopw [13] (fun i wr=>∃ k:Nat,k<=n/\i=.int .i64 k/\Hid (Bw w wr/\∀ i,i<k->g i=u i)) (fun i _=>n - (intOf i).toNat)
 case atStart=>exact ⟨0,nD _,rfl,nE _ _,fun i hi=>by omega⟩
 case round=>
  obtain ⟨k,hk,rfl,HK⟩:=hrel;by_cases hlt:k<n
  ·have hkn:k<n:=by omega
   have hkm:k<n:=by omega
   have hkn':(k:Int)<(n:Int):=by omega
   have hkm':(k:Int)<(n:Int):=by omega
   obtain ⟨ck0,ck1,ck2,ck3,ck4⟩:=(H0.1.bw HK.1 H0.2) k hkn;obtain ⟨dk0,dk1,dk2,dk3,dk4⟩:=(H1.1.bw HK.1 H1.2) k hkm;rw [nL] at ck0 ck1 ck2 ck3 ck4 dk0 dk1 dk2 dk3 dk4;have hbl:b<wr.heap.size:=zL H0.2 HK.1.size;have hbl':b'<wr.heap.size:=zL H1.2 HK.1.size;obtain ⟨T,hT⟩:∃ T,qo9 (g k).o (g k).r (g k).a (g k).b (g k).n (u k).o (u k).r (u k).a (u k).b (u k).n=T:=⟨_,rfl⟩
   have HT:Hid (qo9 (g k).o (g k).r (g k).a (g k).b (g k).n (u k).o (u k).r (u k).a (u k).b (u k).n=T):=hT;clear hT;go_upto_region 6 with fail
   have q0:Bw wr wr.drew:=(nE wr.heap.size wr).drew;refine qah (fun w'=>w'.cell? ⟨b,k*5,none⟩=some (iV (g k).o)/\w'.cell? ⟨b,k*5+1,none⟩=some (iV (g k).r)/\w'.cell? ⟨b,k*5+2,none⟩=some (iV (g k).a)/\w'.cell? ⟨b,k*5+3,none⟩=some (iV (g k).b)/\w'.cell? ⟨b,k*5+4,none⟩=some (iV (g k).n)/\w'.cell? ⟨b',k*5,none⟩=some (iV (u k).o)/\w'.cell? ⟨b',k*5+1,none⟩=some (iV (u k).r)/\w'.cell? ⟨b',k*5+2,none⟩=some (iV (u k).a)/\w'.cell? ⟨b',k*5+3,none⟩=some (iV (u k).b)/\w'.cell? ⟨b',k*5+4,none⟩=some (iV (u k).n)) (fun _=>false) (by kernel_rfl) ?_;have hHeld:(fun w':World=>w'.cell? ⟨b,k*5,none⟩=some (iV (g k).o)/\w'.cell? ⟨b,k*5+1,none⟩=some (iV (g k).r)/\w'.cell? ⟨b,k*5+2,none⟩=some (iV (g k).a)/\w'.cell? ⟨b,k*5+3,none⟩=some (iV (g k).b)/\w'.cell? ⟨b,k*5+4,none⟩=some (iV (g k).n)/\w'.cell? ⟨b',k*5,none⟩=some (iV (u k).o)/\w'.cell? ⟨b',k*5+1,none⟩=some (iV (u k).r)/\w'.cell? ⟨b',k*5+2,none⟩=some (iV (u k).a)/\w'.cell? ⟨b',k*5+3,none⟩=some (iV (u k).b)/\w'.cell? ⟨b',k*5+4,none⟩=some (iV (u k).n)) wr.drew:=⟨(q0.cell (p:=(aQ b _)) hbl).trans ck0,(q0.cell (p:=(aQ b _)) hbl).trans ck1,(q0.cell (p:=(aQ b _)) hbl).trans ck2,(q0.cell (p:=(aQ b _)) hbl).trans ck3,(q0.cell (p:=(aQ b _)) hbl).trans ck4,(q0.cell (p:=(aQ b' _)) hbl').trans dk0,(q0.cell (p:=(aQ b' _)) hbl').trans dk1,(q0.cell (p:=(aQ b' _)) hbl').trans dk2,(q0.cell (p:=(aQ b' _)) hbl').trans dk3,(q0.cell (p:=(aQ b' _)) hbl').trans dk4⟩
   refine qa0 [0,1,2,3,4,5,6,7] ?_;iterate 8 (refine qba rfl hHeld ?_)
   refine qav ?_;have hne:=qwv (g k).o (g k).r (g k).a (g k).b (g k).n (u k).o (u k).r (u k).a (u k).b (u k).n;rw [HT.out] at hne;refine qcv 8 rfl hHeld ⟨.bool (!T),fun wq _=>?_,?_⟩
   ·go_simp
   (try simp only [Act.put,zD,zE,zF])
   refine yX ?_ _;have HK':Hid (Bw w wr.drew):=HK.1.trans (q0.mono HK.1.size);clear hHeld hne q0 ck0 ck1 ck2 ck3 ck4 dk0 dk1 dk2 dk3 dk4 hbl hbl';cases T with
   | false=>
    have HR:Hid (¬ (n=n/\∀ i,i<n->g i=u i)):=fun e=>by
     have:=(qqy _ _).2 (e.2 k hkn);rw [HT.out] at this;cases this
    go_wp2;go_ret;exact ⟨qcz.no fun h=>HR.out (HP.mpr h),HK'.out⟩
   | true=>
    have HE:Hid (∀ i,i<k+1->g i=u i):=fun i hi=>by
     by_cases e:i=k
     ·subst e
      exact (qqy _ _).1 HT.out
     ·exact HK.2 i (by omega)
    go_wp2;go_roundw
    case rel=>exact ⟨k+1,by omega,by go_num,HK'.out,HE.out⟩
    case measure=>simp [intOf];omega
  ·have hkn:k=n:=by omega
   subst hkn;have HR:Hid (Bw w wr/\∀ i,i<k->g i=u i):=HK.out;clear hlt hk hmm;go_wp2;go_ret;exact ⟨qcz.yes (HP.mp ⟨trivial,HR.2⟩),HR.1⟩
def Sy.SameP (y Y:Sy):Prop:=y.pn=Y.pn/\∀ p,p<y.pn->(y.pL p=Y.pL p/\∀ i,i<y.pL p->y.pH p i=Y.pH p i)
theorem qi3 (x y:SysIn) (w:World) (hx:SysG w x) (hy:SysG w y) (hL:x.Len) (hM:y.Len):
  Calls prog 69 #[.slice x.pa x.pn x.pc,.slice y.pa y.pn y.pc,.func (.func 70) #[] #[]] w fun e w'=>qcz e (x.y.SameP y.y)/\Bw w w':=by
 have HX:Hid (SysG w x):=hx;have HY:Hid (SysG w y):=hy;have HLx:Hid (∀ i,i<x.pn->x.pL i<=1048576):=hL.p.2;have HLy:Hid (∀ i,i<y.pn->y.pL i<=1048576):=hM.p.2;have hn':(x.pn:Int)<=1048576:=by have:=hL.p.1;omega
 clear hx hy hL hM;by_cases hnm:x.pn=y.pn
 case neg=>
  have hnm':¬ ((x.pn:Int)=(y.pn:Int)):=by omega
  have HR:Hid (¬ x.y.SameP y.y):=fun h=>absurd h.1 hnm
  go_enter func69,ntmps69
  go_wp2;go_ret;exact ⟨qcz.no HR.out,nE _ _⟩
 have HNM:Hid (x.pn=y.pn):=hnm;have hnm':(x.pn:Int)=(y.pn:Int):=by omega
 clear hnm
 go_enter func69,ntmps69
 go_wp2_with fail
 go_loopw [17] (fun i wr=>∃ k:Nat,k<=x.pn/\i=.int .i64 k/\Hid (Bw w wr/\∀ p,p<k->(x.pL p=y.pL p/\∀ i,i<x.pL p->x.pH p i=y.pH p i))) (fun i _=>x.pn - (intOf i).toNat)
 case atStart=>exact ⟨0,nD _,rfl,nE _ _,fun i hi=>by omega⟩
 case round=>
  obtain ⟨k,hk,rfl,HK⟩:=hrel;by_cases hlt:k<x.pn
  ·have hlt':(k:Int)<(x.pn:Int):=by omega
   have hly:k<y.pn:=by have:=HNM.out;omega
   have hly':(k:Int)<(y.pn:Int):=by omega
   obtain ⟨b,o,eb,cb⟩:=(HX.bw HK.1).p.at hlt;obtain ⟨b',o',eb',cb'⟩:=(HY.bw HK.1).p.at hly;obtain ⟨c,ec,lc,ic⟩:=(HX.bw HK.1).pi k hlt;obtain ⟨c',ec',lc',ic'⟩:=(HY.bw HK.1).pi k hly;rw [ec] at cb;rw [ec'] at cb';rw [eb,eb'];have HQ:Hid (Calls prog 70 #[.slice (some ⟨c,0,none⟩) (x.pL k) (x.pC k),.slice (some ⟨c',0,none⟩) (y.pL k) (y.pC k)] wr fun e w'=>qcz e (x.pL k=y.pL k/\∀ i,i<x.pL k->x.pH k i=y.pH k i)/\Bw wr w'):=qku c c' (x.pL k) (y.pL k) (x.pC k) (y.pC k) (x.pH k) (y.pH k) wr (HLx.out k hlt) (HLy.out k hly) lc lc' ic ic';clear ic ic' lc lc' ec ec' eb eb';go_wp2_with (go_at_call 70;refine HQ.mono ?_;rintro e w1 ⟨⟨t,rfl,ht⟩,b1⟩;have HT:Hid (t=true ↔ _):=ht;have HB:Hid (Bw w w1):=HK.1.trans (b1.mono HK.1.size);clear ht b1)
   ·have ht:t=false:=by
     cases t with
     | false=>rfl
     | true=>exact absurd (show (!true)=true by assumption) (by decide)
    go_ret;exact ⟨qcz.no fun h=>by have:=HT.2 (h.2 k hlt);rw [ht] at this;exact Bool.noConfusion this,HB.out⟩
   ·have ht:t=true:=by
     cases t with
     | true=>rfl
     | false=>exact absurd (show (!false)=false by assumption) (by decide)
    have HE:Hid (∀ p,p<k+1->(x.pL p=y.pL p/\∀ i,i<x.pL p->x.pH p i=y.pH p i)):=fun p hp=>by
     by_cases e:p=k
     ·subst e
      exact HT.1 ht
     ·exact HK.2 p (by omega)
    go_roundw
    case rel=>exact ⟨k+1,by omega,by go_num,HB.out,HE.out⟩
    case measure=>simp [intOf];omega
  ·have hkn:k=x.pn:=by omega
   have HR:Hid (x.y.SameP y.y/\Bw w wr):=⟨⟨HNM.out,fun p hp=>HK.2 p (by rw [hkn];exact hp)⟩,HK.1⟩
   have hge:(x.pn:Int)<=(k:Int):=by omega
   clear hkn hlt hk HK;go_wp2;go_ret;exact ⟨qcz.yes HR.1,HR.2⟩
theorem qj2 (x y:SysIn) (w:World) (hx:SysG w x) (hy:SysG w y) (hL:x.Len) (hM:y.Len):
  Calls prog 32 #[x.v,y.v] w fun e w'=>qcz e (x.y.SameP y.y)/\Bw w w':=by
 have HQ:Hid (∀ wx,Bw w wx->Calls prog 69 #[.slice x.pa x.pn x.pc,.slice y.pa y.pn y.pc,.func (.func 70) #[] #[]] wx fun e w'=>qcz e (x.y.SameP y.y)/\Bw wx w'):=fun wx hb=>qi3 x y wx (hx.bw hb) (hy.bw hb) hL hM;have BW:Hid (Bw w ((w.alloc (x.oX)).alloc (oQ4 y.pa y.pn y.pc y.sa y.sn y.sc y.wa y.wn y.wc y.ha y.hn y.hc))):=(zT _ _).trans ((zT _ _).mono (by simp));clear hx hy hL hM
 go_enter func32,ntmps32
 go_wp2_with (go_at_call 69;refine (HQ.out _ BW.out).mono ?_;rintro e w1 ⟨⟨t,rfl,ht⟩,b1⟩;have HT:Hid (t=true ↔ _):=ht;have HB:Hid (Bw w w1):=BW.trans (b1.mono BW.size);clear ht b1)
 go_ret;exact ⟨⟨t,rfl,HT.out⟩,HB.out⟩
open Go.ChangeShapes Go.WideShapes Go.ChangeAt
def Sy.Fo (y Y:Sy):Prop:=(y.okB=true/\Y.okB=true)/\y.pn=Y.pn/\∀ p,p<y.pn->((y.pL p=Y.pL p/\∀ i,i<y.pL p->y.pH p i=Y.pH p i)/\(y.hL p<=Y.hL p/\∀ i,i<y.hL p->y.hH p i=Y.hH p i))
structure F2 (w wr:World) (x X:SysIn):Prop where
 gx:SysG wr x
 gX:SysG wr X
 bx:x.bX wr w.heap.size
 bX:BoxC wr (w.heap.size+1) (.slice X.pa X.pn X.pc) (.slice X.sa X.sn X.sc) (.slice X.wa X.wn X.wc) (.slice X.ha X.hn X.hc)
 be:Bw w wr
theorem F2.bw {w wr w':World} {x X:SysIn} (h:F2 w wr x X) (hb:Bw wr w'):F2 w w' x X:=⟨h.gx.bw hb,h.gX.bw hb,h.bx.bw hb,h.bX.bw hb,h.be.trans (hb.mono h.be.size)⟩
theorem F2.new {w:World} {x X:SysIn} (hx:SysG w x) (hX:SysG w X) (t:TypeId):F2 w ((w.alloc (.cells #[.slice x.pa x.pn x.pc,.slice x.sa x.sn x.sc,.slice x.wa x.wn x.wc,.slice x.ha x.hn x.hc] t)).alloc (.cells #[.slice X.pa X.pn X.pc,.slice X.sa X.sn X.sc,.slice X.wa X.wn X.wc,.slice X.ha X.hn X.hc] t)) x X:=by
 have a1:=zT w (.cells #[.slice x.pa x.pn x.pc,.slice x.sa x.sn x.sc,.slice x.wa x.wn x.wc,.slice x.ha x.hn x.hc] t);have a2:=zT (w.alloc (.cells #[.slice x.pa x.pn x.pc,.slice x.sa x.sn x.sc,.slice x.wa x.wn x.wc,.slice x.ha x.hn x.hc] t)) (.cells #[.slice X.pa X.pn X.pc,.slice X.sa X.sn X.sc,.slice X.wa X.wn X.wc,.slice X.ha X.hn X.hc] t);have e1:(w.alloc (.cells #[.slice x.pa x.pn x.pc,.slice x.sa x.sn x.sc,.slice x.wa x.wn x.wc,.slice x.ha x.hn x.hc] t)).heap.size=w.heap.size+1:=by simp
 have b:=a1.trans (a2.mono (by omega));have n2:=BoxC.new (w.alloc (.cells #[.slice x.pa x.pn x.pc,.slice x.sa x.sn x.sc,.slice x.wa x.wn x.wc,.slice x.ha x.hn x.hc] t)) (.slice X.pa X.pn X.pc) (.slice X.sa X.sn X.sc) (.slice X.wa X.wn X.wc) (.slice X.ha X.hn X.hc) t;rw [e1] at n2;exact ⟨hx.bw b,hX.bw b,(BoxC.new w _ _ _ _ t).bw a2,n2,b⟩
theorem F2.lt {w wr:World} {x X:SysIn} (h:F2 w wr x X):w.heap.size+1<wr.heap.size:=zJ wr _ h.bX.1
open Go.Shelf
theorem qo4 (dp:Nat) (hdp:1<=dp) (Bs Bo m c:Nat) (x y:Hv) (hxy:x.n<=y.n) (hn:x.n<=1048576) (hl:∀ i,i<x.n->x.L i<=1048576/\y.L i<=1048576) (d:Nat->Nat)
  (hd:∀ i,i<x.n->∀ r,Al (x.g i) (y.g i) (min (x.L i) (y.L i)) r->x.L i - r=d i) (w:World) (hm:m<=w.heap.size) (hcm:c<=m) (hF:∀ W',Kq m c w W'->x.In W' Bs/\y.In W' Bo):
  SeqStopsK Fence.wide dp prog 71 #[.pointer (some (aQ Bs 0)),.pointer (some (aQ Bo 0))] (fun z:Fin x.n × Nat=>#[iV (z.1.val:Nat),iV (z.2:Nat)]) (Kq m c)
   (fun ys=>ys=gnL x.n d x.n (nA _)) (fun pre=>∃ k,∃ h:k<x.n,0<d k/\pre=gnL x.n d (k+1) h) x.n w:=fun l J Jx W hW hJ _ hY h0=>
 qs6 dp hdp l Bs Bo m c x y hxy hn hl d hd W (zP hm hW.size) hcm (fun W' hk=>hF W' ((Kq.of hW hm hcm).trans hk)) J Jx hJ hY h0
theorem qs7 (v1 v2 v3 v4 u1 u2 u3 u4:Value) (w:World):
  Calls prog 33 #[.agg #[v1,v2,v3,v4],.agg #[u1,u2,u3,u4]] w fun e w'=>e=.returned (.func (.func 71) #[] #[.pointer (some (aQ w.heap.size 0)),.pointer (some ⟨w.heap.size+1,0,none⟩)])/\w'=(w.alloc (.cells #[v1,v2,v3,v4] 29)).alloc (.cells #[u1,u2,u3,u4] 29):=by
 go_enter func33,ntmps33
 go_wp2;go_ret;exact ⟨rfl,rfl⟩
attribute [local go_sem] Oper.semAt_some
theorem qqu {n:Nat} {d:Nat->Nat}:∀ (k:Nat) (h:k<=n),gnL n d k h=[]->∀ i,i<k->d i=0
 | 0,_,_,i,hi=>absurd hi (Nat.not_lt_zero i)
 | k+1,h,e,i,hi=>by
  by_cases hd:0<d k
  ·rw [qmp h hd] at e
   simp at e
  ·rw [qn1 h hd] at e
   by_cases e':i=k
   ·rw [e'];omega
   ·exact qqu k (Nat.le_of_succ_le h) e i (by omega)
structure F3 (w wr:World) (x X:SysIn):Prop where
 f:F2 w wr x X
 rc:wr.cell? ⟨w.heap.size+1+1,0,none⟩=some (.bool false)
 rf:wr.frozen? ⟨w.heap.size+1+1,0,none⟩=false
theorem F3.lt {w wr:World} {x X:SysIn} (h:F3 w wr x X):w.heap.size+1+1<wr.heap.size:=zJ wr _ h.rc
theorem F3.bw {w wr w':World} {x X:SysIn} (h:F3 w wr x X) (hb:Bw wr w'):F3 w w' x X:=⟨h.f.bw hb,(hb.cell (p:=⟨w.heap.size+1+1,0,none⟩) h.lt).trans h.rc,((qae hb).2 _ 0 h.lt).trans h.rf⟩
theorem F3.new {w wr:World} {x X:SysIn} (h:F2 w wr x X) (e:wr.heap.size=w.heap.size+1+1) (t:TypeId):F3 w (wr.alloc (.cells #[.bool false] t)) x X:=by
 have a:=zT wr (.cells #[.bool false] t);refine ⟨h.bw a,?_,?_⟩
 ·rw [<- e];simp
 ·rw [<- e];exact yD _ _ _ _ rfl
theorem qi9 (x X:SysIn) (w:World) (hG:SysG w x) (hG':SysG w X) (hL:x.Len) (hL':X.Len) (hV:w.cell? (aQ 0 0)=some vT):
  Calls prog 11 #[x.v,X.v] w fun e w'=>qcz e (x.y.Fo X.y)/\Bw w w':=by
 have H0:Hid (F3 w (((w.alloc (x.oX)).alloc (oQ4 X.pa X.pn X.pc X.sa X.sn X.sc X.wa X.wn X.wc X.ha X.hn X.hc)).alloc (.cells #[.bool false] 4)) x X):=F3.new (F2.new hG hG' _) (by simp) _;have HV:Hid (w.cell? (aQ 0 0)=some vT):=hV;have HV0:Hid (0<w.heap.size):=zJ w _ hV;have HO:Hid (∀ wx,SysG wx x->wx.cell? ⟨0,0,none⟩=some (.iface 221 (.agg #[.pointer (some ⟨1,132,none⟩)]))->Calls prog 10 #[x.v] wx (rB wx (.bool x.y.okB))):=fun wx g v=>qbq x wx g hL v;have HO':Hid (∀ wx,SysG wx X->wx.cell? ⟨0,0,none⟩=some (.iface 221 (.agg #[.pointer (some ⟨1,132,none⟩)]))->Calls prog 10 #[X.v] wx (rB wx (.bool X.y.okB))):=fun wx g v=>qbq X wx g hL' v;obtain ⟨sp,hsp⟩:∃ sp:Bool,(sp=true ↔ x.y.SameP X.y):=by classical exact ⟨decide (x.y.SameP X.y),by simp⟩
 have HS:Hid (∀ wx,SysG wx x->SysG wx X->Calls prog 32 #[x.v,X.v] wx (rB wx (.bool sp))):=fun wx g g'=>(qj2 x X wx g g' hL hL').mono fun e w' h=>by
  obtain ⟨⟨t,rfl,ht⟩,hb⟩:=h;exact ⟨by rw [show t=sp from Bool.eq_iff_iff.2 (ht.trans hsp.symm)],hb⟩
 have HL:Hid (x.Len/\X.Len):=⟨hL,hL'⟩
 have HSP:Hid (sp=true ↔ x.y.SameP X.y):=hsp;clear hL hL' hG hG' hV hsp;have HOk:Hid ((x.y.okB=true->x.hn=x.pn)/\(X.y.okB=true->X.hn=X.pn)):=⟨fun h=>(Sy.ok_of h).cn.2.2.1,fun h=>(Sy.ok_of h).cn.2.2.1⟩
 obtain ⟨tx,htx⟩:∃ t,x.y.okB=t:=⟨_,rfl⟩
 obtain ⟨tX,htX⟩:∃ t,X.y.okB=t:=⟨_,rfl⟩
 have HF:Hid (x.y.Fo X.y->(tx=true/\tX=true)/\sp=true):=fun h=>by rw [<- htx,<- htX];exact ⟨h.1,HSP.2 ⟨h.2.1,fun p hp=>(h.2.2 p hp).1⟩⟩
 have HF2:Hid (tx=true/\tX=true->x.y.SameP X.y->(∀ j,j<x.pn->(x.hL j<=X.hL j/\∀ i,i<x.hL j->x.hH j i=X.hH j i))->x.y.Fo X.y):=fun h hp hq=>⟨by rw [htx,htX];exact h,hp.1,fun p hpl=>⟨hp.2 p hpl,hq p hpl⟩⟩
 have HF3:Hid (x.y.Fo X.y->∀ j,j<x.pn->(x.hL j<=X.hL j/\∀ i,i<x.hL j->x.hH j i=X.hH j i)):=fun h j hj=>(h.2.2 j hj).2;rw [htx] at HO HOk;rw [htX] at HO' HOk;clear htx htX;obtain ⟨k0,k1,k2,k3⟩:=H0.f.bx;refine (callsIn_wide (n:=3)).1 ?_;refine callsIn_of_wp_marks func11 rfl trivial ?_ rfl;simp only [ntmps11,List.size_toArray,List.length_cons,List.length_nil,Nat.reduceAdd,Nat.reduceSub,Array.replicate_succ,Array.replicate_zero,List.push_toArray,List.append_toArray,List.nil_append,List.cons_append];cases tx with
 | false=>
  gi_wp2_with (refine ⟨trivial,?_⟩;gi_at_call 10;refine (callsIn_wide.2 (HO.out _ H0.f.gx ((H0.f.be.cell (p:=(aQ 0 0)) HV0.out).trans HV.out))).mono ?_;rintro e w1 ⟨rfl,b1⟩;have H1:Hid (F3 w w1 x X):=H0.bw b1;obtain ⟨m0,m1,m2,m3⟩:=H1.f.bX;obtain ⟨k0,k1,k2,k3⟩:=H1.f.bx;have r0:=H1.rc;have rf:=H1.rf;clear HO b1)
  refine ⟨trivial,?_⟩
  gi_wp2
  refine ⟨trivial,?_⟩
  gi_wp2
  have hs:=World.cell?_setCell_same' w1 ⟨w.heap.size+1+1,0,none⟩ (.bool false) (by rw [r0];rfl);refine ⟨.bool false,?_,qcz.no (fun h=>Bool.noConfusion (HF.out h).1.1),H1.f.be.setCell (p:=⟨w.heap.size+1+1,0,none⟩) (by show w.heap.size<=w.heap.size+1+1;omega) _⟩;simp [results,f11,go_sem,hs]
 | true=>
 cases tX with
 | false=>
  gi_wp2_with (first|(refine ⟨trivial,?_⟩;gi_at_call 10;refine (callsIn_wide.2 (HO.out _ H0.f.gx ((H0.f.be.cell (p:=(aQ 0 0)) HV0.out).trans HV.out))).mono ?_;rintro e w1 ⟨rfl,b1⟩;have H1:Hid (F3 w w1 x X):=H0.bw b1;obtain ⟨m0,m1,m2,m3⟩:=H1.f.bX;obtain ⟨k0,k1,k2,k3⟩:=H1.f.bx;have r0:=H1.rc;have rf:=H1.rf;clear HO b1)|(refine ⟨trivial,?_⟩;gi_at_call 10;refine (callsIn_wide.2 (HO'.out _ H1.f.gX ((H1.f.be.cell (p:=(aQ 0 0)) HV0.out).trans HV.out))).mono ?_;rintro e w2 ⟨rfl,b2⟩;clear m0 m1 m2 m3 k0 k1 k2 k3 r0 rf;have H2:Hid (F3 w w2 x X):=H1.bw b2;obtain ⟨m0,m1,m2,m3⟩:=H2.f.bX;obtain ⟨k0,k1,k2,k3⟩:=H2.f.bx;have r0:=H2.rc;have rf:=H2.rf;clear HO' b2))
  refine ⟨trivial,?_⟩
  gi_wp2
  have hs:=World.cell?_setCell_same' w2 ⟨w.heap.size+1+1,0,none⟩ (.bool false) (by rw [r0];rfl);refine ⟨.bool false,?_,qcz.no (fun h=>Bool.noConfusion (HF.out h).1.2),H2.f.be.setCell (p:=⟨w.heap.size+1+1,0,none⟩) (by show w.heap.size<=w.heap.size+1+1;omega) _⟩;simp [results,f11,go_sem,hs]
 | true=>
 cases sp with
 | false=>
  gi_wp2_with (first|(refine ⟨trivial,?_⟩;gi_at_call 10;refine (callsIn_wide.2 (HO.out _ H0.f.gx ((H0.f.be.cell (p:=(aQ 0 0)) HV0.out).trans HV.out))).mono ?_;rintro e w1 ⟨rfl,b1⟩;have H1:Hid (F3 w w1 x X):=H0.bw b1;obtain ⟨m0,m1,m2,m3⟩:=H1.f.bX;obtain ⟨k0,k1,k2,k3⟩:=H1.f.bx;have r0:=H1.rc;have rf:=H1.rf;clear HO b1)|(refine ⟨trivial,?_⟩;gi_at_call 10;refine (callsIn_wide.2 (HO'.out _ H1.f.gX ((H1.f.be.cell (p:=(aQ 0 0)) HV0.out).trans HV.out))).mono ?_;rintro e w2 ⟨rfl,b2⟩;clear m0 m1 m2 m3 k0 k1 k2 k3 r0 rf;have H2:Hid (F3 w w2 x X):=H1.bw b2;obtain ⟨m0,m1,m2,m3⟩:=H2.f.bX;obtain ⟨k0,k1,k2,k3⟩:=H2.f.bx;have r0:=H2.rc;have rf:=H2.rf;clear HO' b2)|(refine ⟨trivial,?_⟩;gi_at_call 32;refine (callsIn_wide.2 (HS.out _ H2.f.gx H2.f.gX)).mono ?_;rintro e w3 ⟨rfl,b3⟩;clear m0 m1 m2 m3 k0 k1 k2 k3 r0 rf;have H3:Hid (F3 w w3 x X):=H2.bw b3;obtain ⟨m0,m1,m2,m3⟩:=H3.f.bX;obtain ⟨k0,k1,k2,k3⟩:=H3.f.bx;have r0:=H3.rc;have rf:=H3.rf;clear HS b3))
  have hs:=World.cell?_setCell_same' w3 ⟨w.heap.size+1+1,0,none⟩ (.bool false) (by rw [r0];rfl);refine ⟨.bool false,?_,qcz.no (fun h=>Bool.noConfusion (HF.out h).2),H3.f.be.setCell (p:=⟨w.heap.size+1+1,0,none⟩) (by show w.heap.size<=w.heap.size+1+1;omega) _⟩;simp [results,f11,go_sem,hs]
 | true=>
 have HNN:Hid (x.hn=x.pn/\X.hn=X.pn/\x.pn=X.pn):=⟨HOk.1 rfl,HOk.2 rfl,(HSP.1 rfl).1⟩
 have HF4:Hid ((∀ j,j<x.pn->(x.hL j<=X.hL j/\∀ i,i<x.hL j->x.hH j i=X.hH j i))->x.y.Fo X.y):=HF2.out ⟨rfl,rfl⟩ (HSP.1 rfl);clear HOk HF2 HSP HF
 gi_wp2_with (first|(refine ⟨trivial,?_⟩;gi_at_call 10;refine (callsIn_wide.2 (HO.out _ H0.f.gx ((H0.f.be.cell (p:=(aQ 0 0)) HV0.out).trans HV.out))).mono ?_;rintro e w1 ⟨rfl,b1⟩;have H1:Hid (F3 w w1 x X):=H0.bw b1;obtain ⟨m0,m1,m2,m3⟩:=H1.f.bX;obtain ⟨k0,k1,k2,k3⟩:=H1.f.bx;have r0:=H1.rc;have rf:=H1.rf;clear HO b1)|(refine ⟨trivial,?_⟩;gi_at_call 10;refine (callsIn_wide.2 (HO'.out _ H1.f.gX ((H1.f.be.cell (p:=(aQ 0 0)) HV0.out).trans HV.out))).mono ?_;rintro e w2 ⟨rfl,b2⟩;clear m0 m1 m2 m3 k0 k1 k2 k3 r0 rf;have H2:Hid (F3 w w2 x X):=H1.bw b2;obtain ⟨m0,m1,m2,m3⟩:=H2.f.bX;obtain ⟨k0,k1,k2,k3⟩:=H2.f.bx;have r0:=H2.rc;have rf:=H2.rf;clear HO' b2)|(refine ⟨trivial,?_⟩;gi_at_call 32;refine (callsIn_wide.2 (HS.out _ H2.f.gx H2.f.gX)).mono ?_;rintro e w3 ⟨rfl,b3⟩;clear m0 m1 m2 m3 k0 k1 k2 k3 r0 rf;have H3:Hid (F3 w w3 x X):=H2.bw b3;obtain ⟨m0,m1,m2,m3⟩:=H3.f.bX;obtain ⟨k0,k1,k2,k3⟩:=H3.f.bx;have r0:=H3.rc;have rf:=H3.rf;clear HS b3)|(refine ⟨trivial,?_⟩;gi_at_call 33;refine (callsIn_wide.2 (qs7 _ _ _ _ _ _ _ _ _)).mono ?_;rintro e w' ⟨rfl,rfl⟩))
 clear m0 m1 m2 m3 k0 k1 k2 k3 r0 rf H0 H1 H2 HV HV0;have a1:=zT w3 (x.oX);have a2:=zT (w3.alloc (x.oX)) (oQ4 X.pa X.pn X.pc X.sa X.sn X.sc X.wa X.wn X.wc X.ha X.hn X.hc);have z1:(w3.alloc (x.oX)).heap.size=w3.heap.size+1:=by simp
 have z2:((w3.alloc (x.oX)).alloc (oQ4 X.pa X.pn X.pc X.sa X.sn X.sc X.wa X.wn X.wc X.ha X.hn X.hc)).heap.size=w3.heap.size+1+1:=by simp
 have n1:=(BoxC.new w3 (.slice x.pa x.pn x.pc) (.slice x.sa x.sn x.sc) (.slice x.wa x.wn x.wc) (.slice x.ha x.hn x.hc) 29).2.2.2;have n2:=(BoxC.new (w3.alloc (x.oX)) (.slice X.pa X.pn X.pc) (.slice X.sa X.sn X.sc) (.slice X.wa X.wn X.wc) (.slice X.ha X.hn X.hc) 29).2.2.2;dsimp only [Bw] at a2;rw [z1] at n2 a2;have n1':=(a2.cell (p:=(aQ w3.heap.size 3)) (by show w3.heap.size<w3.heap.size+1;omega)).trans n1;have aa:Bw w3 ((w3.alloc (x.oX)).alloc (oQ4 X.pa X.pn X.pc X.sa X.sn X.sc X.wa X.wn X.wc X.ha X.hn X.hc)):=a1.trans (a2.mono (by omega));have H4:Hid (F3 w ((w3.alloc (x.oX)).alloc (oQ4 X.pa X.pn X.pc X.sa X.sn X.sc X.wa X.wn X.wc X.ha X.hn X.hc)) x X):=H3.bw aa;have HB:Hid (((w3.alloc (x.oX)).alloc (oQ4 X.pa X.pn X.pc X.sa X.sn X.sc X.wa X.wn X.wc X.ha X.hn X.hc)).cell? (aQ w3.heap.size 3)=some (.slice x.ha x.hn x.hc)/\((w3.alloc (x.oX)).alloc (oQ4 X.pa X.pn X.pc X.sa X.sn X.sc X.wa X.wn X.wc X.ha X.hn X.hc)).cell? ⟨w3.heap.size+1,3,none⟩=some (.slice X.ha X.hn X.hc)):=⟨n1',n2⟩
 have hwN:w.heap.size+1+1<w3.heap.size:=H3.lt;clear a1 a2 z1 n1 n2 n1' aa H3;generalize ((w3.alloc (x.oX)).alloc (oQ4 X.pa X.pn X.pc X.sa X.sn X.sc X.wa X.wn X.wc X.ha X.hn X.hc))=W8 at *;generalize w3.heap.size=N at *;clear w3
 have hF:Hid (∀ W',Kq (N+1+1) (N+1+1) W8 W'->Hv.In ⟨x.ha,x.hn,x.hc,x.hA,x.hL,x.hC,x.hH⟩ W' N/\Hv.In ⟨X.ha,X.hn,X.hc,X.hA,X.hL,X.hC,X.hH⟩ W' (N+1)):=fun W' hk=>by
  have hb:Bw W8 W':=by dsimp only [Bw];rw [z2];exact hk.lo
  have g:=H4.f.gx.bw hb;have g':=H4.f.gX.bw hb;exact ⟨⟨(hk.lo.cell (p:=(aQ N 3)) (by show N<N+1+1;omega)).trans HB.1,g.h,g.hi⟩,⟨(hk.lo.cell (p:=⟨N+1,3,none⟩) (by show N+1<N+1+1;omega)).trans HB.2,g'.h,g'.hi⟩⟩
 have hnn:=HNN.out;have hll:∀ i,i<x.hn->x.hL i<=1048576/\X.hL i<=1048576:=fun i hi=>⟨HL.1.h.2 i hi,HL.2.h.2 i (by omega)⟩
 have hn20:x.hn<=1048576:=HL.1.h.1;have hxX:x.hn<=X.hn:=by omega
 clear hnn;obtain ⟨d,hdd⟩:∃ d:Nat->Nat,∀ i,i<x.hn->∀ r,Al (x.hH i) (X.hH i) (min (x.hL i) (X.hL i)) r->x.hL i - r=d i:=⟨fun i=>x.hL i - (Al.ex (x.hH i) (X.hH i) (min (x.hL i) (X.hL i))).choose,fun i _ r a=>by rw [a.one (Al.ex (x.hH i) (X.hH i) (min (x.hL i) (X.hL i))).choose_spec]⟩
 have HD:Hid (∀ j,j<x.pn->(d j=0 ↔ (x.hL j<=X.hL j/\∀ i,i<x.hL j->x.hH j i=X.hH j i))):=fun j hj=>by
  obtain ⟨r,a⟩:=Al.ex (x.hH j) (X.hH j) (min (x.hL j) (X.hL j));have h1:=hdd j (by have:=HNN.out;omega) r a;have h2:=a.le;constructor
  ·intro h0
   have h3:x.hL j=r:=by omega
   exact ⟨by omega,fun i hi=>a.eq i (by omega)⟩
  ·rintro ⟨h3,h4⟩
   by_cases h5:r<x.hL j
   ·exact absurd (h4 r h5) (a.ne (by omega))
   ·omega
 refine wpIn_rangeFunc_ownG (F:=Fence.wide) (n:=3) rfl (by omega) (gf:=71) (lb:=#[.pointer (some (aQ N 0)),.pointer (some ⟨N+1,0,none⟩)]) rfl trivial (enters_of func71 (by kernel_rfl) rfl)
  (qo4 2 (by omega) N (N+1) (N+1+1) (N+1+1) ⟨x.ha,x.hn,x.hc,x.hA,x.hL,x.hC,x.hH⟩ ⟨X.ha,X.hn,X.hc,X.hA,X.hL,X.hC,X.hH⟩ hxX hn20 hll d hdd W8 (by omega) (by omega) hF.out) (fun h k=>h.trans k) (Kq.b (by omega) (by omega)) (nE _ _) (fun _=>rfl)
  (fun pre W=>(pre=[]/\W.cell? ⟨w.heap.size+1+1,0,none⟩=some (.bool false)/\W.frozen? ⟨w.heap.size+1+1,0,none⟩=false)/\Bw w W)
  (fun c _ W=>(c=.ret/\W.cell? ⟨w.heap.size+1+1,0,none⟩=some (.bool false))/\Bw w W)
  (OwnFrom.and (Own.from (fun s A B row hs hg hr=>⟨hs.1,cell_kept hs.2.1 hg hr,(frozen_kept hs.2.1 hg hr).trans hs.2.2⟩) _) (ownFrom_below (nA _) (by omega)))
  (fun c=>OwnFrom.and (Own.from (fun s A B row hs hg hr=>⟨hs.1,cell_kept hs.2 hg hr⟩) _) (ownFrom_below (nA _) (by omega)))
  ⟨⟨rfl,H4.rc,H4.rf⟩,H4.f.be⟩
  (fun z=>{ tmps:=#[x.v,X.v,.pointer (some (aQ w.heap.size 0)),.pointer (some ⟨w.heap.size+1,0,none⟩),.pointer (some ⟨w.heap.size+1+1,0,none⟩),.agg #[.slice x.pa x.pn x.pc,.slice x.sa x.sn x.sc,.slice x.wa x.wn x.wc,.slice x.ha x.hn x.hc],.bool true,.bool false,.bool false,.agg #[.slice X.pa X.pn X.pc,.slice X.sa X.sn X.sc,.slice X.wa X.wn X.wc,.slice X.ha X.hn X.hc],.bool true,.bool false,.bool false,.bool false,.agg #[.slice x.pa x.pn x.pc,.slice x.sa x.sn x.sc,.slice x.wa x.wn x.wc,.slice x.ha x.hn x.hc],.agg #[.slice X.pa X.pn X.pc,.slice X.sa X.sn X.sc,.slice X.wa X.wn X.wc,.slice X.ha X.hn X.hc],.bool true,.bool false,.bool false,.agg #[.slice x.pa x.pn x.pc,.slice x.sa x.sn x.sc,.slice x.wa x.wn x.wc,.slice x.ha x.hn x.hc],.agg #[.slice X.pa X.pn X.pc,.slice X.sa X.sn X.sc,.slice X.wa X.wn X.wc,.slice X.ha X.hn X.hc],.func (.func 71) #[] #[.pointer (some (aQ N 0)),.pointer (some ⟨N+1,0,none⟩)],iV (z.1.val:Nat),iV (z.2:Nat)],defers:=[] }) ?assign ?body ?done ?stop
 case assign=>
  intro l z W K hK
  gi_wp2
  exact hK
 case body=>
  rintro l pre z W ⟨⟨hp,hcr,hfr⟩,hB⟩ _
  gi_wp2
  exact ⟨(KeepsOthers.setCell _ _ _).from _,⟨rfl,World.cell?_setCell_same' _ _ _ (by rw [hcr];rfl)⟩,hB.setCell (p:=⟨w.heap.size+1+1,0,none⟩) (by show w.heap.size<=w.heap.size+1+1;omega) _⟩
 case done=>
  rintro D ys W hD hys ⟨⟨hp,hcr,hfr⟩,hB⟩ hK;have hz:Hid (x.y.Fo X.y):=HF4.out fun j hj=>(HD.out j hj).1 (qqu x.hn (nA _) (hys.symm.trans hp) j (by have:=HNN.out;omega))
  gi_wp2
  have hK':=(KeepsOthers.setCell W ⟨w.heap.size+1+1,0,none⟩ (.bool true)).same D _ hK rfl;refine ⟨by simp,.inl ⟨_,_,rfl,run_takeDeferred hK',?_⟩⟩;have hc5:=cell_kept (World.cell?_setCell_same' W ⟨w.heap.size+1+1,0,none⟩ (.bool true) (by rw [hcr];rfl)) (grownBy_putObj' _ D (.deferred none)) (fun r e=>by cases e;exact ⟨_,hK',rfl⟩);refine ⟨.bool true,?_,qcz.yes hz.out,(hB.setCell (p:=⟨w.heap.size+1+1,0,none⟩) (by show w.heap.size<=w.heap.size+1+1;omega) _).trans (belowK_b (w:=w) (nA _) _ D _ _ (by omega) hK' rfl rfl)⟩;simp [results,f11,go_sem,hc5]
 case stop=>
  rintro D c pre W hD ⟨k,hk,hdk,-⟩ ⟨⟨rfl,hcr⟩,hB⟩ hK
  have hz:Hid (¬ x.y.Fo X.y):=fun h=>by
   have h1:=(HD.out k (by have h2:=HNN.out;have h3:k<x.hn:=hk;omega)).2 (HF3.out h k (by have h2:=HNN.out;have h3:k<x.hn:=hk;omega));omega
  gi_wp2
  refine ⟨by simp,.inl ⟨_,_,rfl,run_takeDeferred hK,?_⟩⟩;have hc5:=cell_kept hcr (grownBy_putObj' _ D (.deferred none)) (fun r e=>by cases e;exact ⟨_,hK,rfl⟩);refine ⟨.bool false,?_,qcz.no hz.out,hB.trans (belowK_b (w:=w) (nA _) W D _ _ (by omega) hK rfl rfl)⟩;simp [results,f11,go_sem,hc5]
variable {z:Bool}
structure Hp (z:Bool) (w:World) (B:Nat) (c0:Nat->Nat) (k q v:Int) (y:Sy) (vp vs vw vh:Value) (wx:World):Prop where
 be:Below B w wx
 bx:BoxC wx w.heap.size vp vs vw vh
 ev:EvK wx (w.heap.size+1) k q v
 kp:∀ b,b<w.heap.size->c0 b=0->wx.heap[b]? = w.heap[b]?
 ow:∃ c up us uw uh,OwnS z wx B c y vp vs vw vh up us uw uh/\c w.heap.size=0/\c (w.heap.size+1)=0/\∀ b,b<w.heap.size->c b=c0 b
theorem Sy.Ok.lens {y:Sy} (h:y.Ok) {p:Nat} (hp:p<y.pn):y.pL p<=maxLen/\(y.sS p).rs.length<=1048576/\(y.sS p).os.length<=1048576:=by
 have h1:=h.four hp;simp only [qac,nH,inB,nI] at h1;obtain ⟨⟨r0,r1,r2,r3,e,-⟩,-,h60,-⟩:=qbw (h.st hp);refine ⟨?_,by rw [e];simp,by omega⟩;have:=h1.2.1;unfold maxLen;omega
theorem qm5 {w:World} {B sz n m c:Nat} {e:TypeId} {a:Option Addr} {xs:List Value} (h:w.ownsRow B e sz (.slice a n c) m xs):c<=maxLen:=by
 rcases h.2 with ⟨e,-⟩ | ⟨g,cap,cur,e,-,-,-,hc,-⟩
 ·simp only [Value.slice.injEq] at e
  omega
 ·simp only [Value.slice.injEq] at e
  omega
theorem Hp.bw {w wx wy:World} {B:Nat} {c0:Nat->Nat} {k q v:Int} {y:Sy} {vp vs vw vh:Value} (h:Hp z w B c0 k q v y vp vs vw vh wx) (hB:B<=wx.heap.size) (b:Bw wx wy):Hp z w B c0 k q v y vp vs vw vh wy:=by
 obtain ⟨c,up,us,uw,uh,o,z0,z1,zc⟩:=h.ow;exact ⟨h.be.trans (b.mono hB),h.bx.bw b,h.ev.bw b,fun j hj hc=>(b.block j (Nat.lt_trans hj h.bx.ltM)).trans (h.kp j hj hc),c,up,us,uw,uh,o.bw b,z0,z1,zc⟩
theorem Hp.le {w wx:World} {B:Nat} {c0:Nat->Nat} {k q v:Int} {y:Sy} {vp vs vw vh:Value} (h:Hp z w B c0 k q v y vp vs vw vh wx) (hB:B<=w.heap.size):B<=wx.heap.size:=zP hB (nJ h.bx.ltM)
theorem qqe {c:Nat->Nat} {a b i j:Nat} (ha:c a=i) (hb:c b=j) (h:i≠j):a≠b:=fun e=>h (by rw [<- ha,<- hb,e])
theorem Hp.putW {w wx w1:World} {B g cap:Nat} {c0:Nat->Nat} {k q v:Int} {y:Sy} {vp vs vh:Value} (h:Hp z w B c0 k q v y vp vs (sG g y.wn cap) vh wx) (hB:B<=w.heap.size) {J m:Nat} {u':Value} {H':Nat->I2} (hJ:J<y.wn) (b1:Bw wx w1) (hu:w1.ownsRow wx.heap.size 94 2 u' m (fT H' m)) (hne:u'≠nS):
  Hp z w B c0 k q v (y.setW J m H') vp vs (sG g y.wn cap) vh (w1.setCell (aQ g J) u'):=by
 obtain ⟨c,up,us,uw,uh,o,z0,z1,zc⟩:=h.ow;have hg:=o.t.rb g rfl;have hz:∀ b,c b=0->b<wx.heap.size->(w1.setCell ⟨g,J,none⟩ u').heap[b]? = wx.heap[b]?:=fun b hb hl=>(zO _ _ _ _ (qqe hb hg.2 (by decide))).trans (b1.block b hl);have hW:=h.le hB;exact ⟨(h.be.trans (b1.mono hW)).setCell hg.1 _,h.bx.blkM (hz _ z0 h.bx.ltM),h.ev.blk (hz _ z1 h.ev.lt),fun j hj hc=>(hz j ((zc j hj).trans hc) (Nat.lt_trans hj h.bx.ltM)).trans (h.kp j hj hc),_,up,us,_,uh,o.putW hJ hW b1.size (fun b hb _=>b1.block b hb) (qb4 hu) hne (fun b hb=>.inr (hu.lt b hb).1),(qat h.bx.ltM).trans z0,(qat h.ev.lt).trans z1,fun j hj=>(qat (Nat.lt_trans hj h.bx.ltM)).trans (zc j hj)⟩
theorem Hp.putH {w wx w1:World} {B g cap:Nat} {c0:Nat->Nat} {k q v:Int} {y:Sy} {vp vs vw:Value} (h:Hp z w B c0 k q v y vp vs vw (sG g y.hn cap) wx) (hB:B<=w.heap.size) {J m:Nat} {u':Value} {H':Nat->E3} (hJ:J<y.hn) (b1:Bw wx w1) (hu:w1.ownsRow wx.heap.size 47 3 u' m (fE H' m)) (hne:u'≠nS):
  Hp z w B c0 k q v (y.setH J m H') vp vs vw (sG g y.hn cap) (w1.setCell (aQ g J) u'):=by
 obtain ⟨c,up,us,uw,uh,o,z0,z1,zc⟩:=h.ow;have hg:=o.h.rb g rfl;have hz:∀ b,c b=0->b<wx.heap.size->(w1.setCell ⟨g,J,none⟩ u').heap[b]? = wx.heap[b]?:=fun b hb hl=>(zO _ _ _ _ (qqe hb hg.2 (by decide))).trans (b1.block b hl);have hW:=h.le hB;exact ⟨(h.be.trans (b1.mono hW)).setCell hg.1 _,h.bx.blkM (hz _ z0 h.bx.ltM),h.ev.blk (hz _ z1 h.ev.lt),fun j hj hc=>(hz j ((zc j hj).trans hc) (Nat.lt_trans hj h.bx.ltM)).trans (h.kp j hj hc),_,up,us,uw,_,o.putH hJ hW b1.size (fun b hb _=>b1.block b hb) (qb4 hu) hne (fun b hb=>.inr (hu.lt b hb).1),(qat h.bx.ltM).trans z0,(qat h.ev.lt).trans z1,fun j hj=>(qat (Nat.lt_trans hj h.bx.ltM)).trans (zc j hj)⟩
theorem Hp.putS {w wx w1:World} {B g cap:Nat} {c0:Nat->Nat} {k q v:Int} {y:Sy} {vp vw vh:Value} (h:Hp z w B c0 k q v y vp (sG g y.sn cap) vw vh wx) (hB:B<=w.heap.size) {i:Nat} (hi:i<y.sn) {ra oa:Option Addr} {rn rc on oc:Nat} {p code:Int} {T:S4} (b1:Bw wx w1) (hu:qaf w1 wx.heap.size (stV p ra rn rc oa on oc code) T.p T.rs T.os T.c):
  Hp z w B c0 k q v (y.setS i T) vp (sG g y.sn cap) vw vh ((((w1.setCell ⟨g,i*4,none⟩ (iV p)).setCell ⟨g,i*4+1,none⟩ (.slice ra rn rc)).setCell ⟨g,i*4+2,none⟩ (.slice oa on oc)).setCell ⟨g,i*4+3,none⟩ (iV code)):=by
 obtain ⟨c,up,us,uw,uh,o,z0,z1,zc⟩:=h.ow;have hg:=o.s.rb g rfl
 have hz:∀ b,c b=0->b<wx.heap.size->((((w1.setCell ⟨g,i*4,none⟩ (iV p)).setCell ⟨g,i*4+1,none⟩ (.slice ra rn rc)).setCell ⟨g,i*4+2,none⟩ (.slice oa on oc)).setCell ⟨g,i*4+3,none⟩ (iV code)).heap[b]? = wx.heap[b]?:=fun b hb hl=>by
  have hn:=qqe hb hg.2 (by decide);exact ((zO _ _ _ _ hn).trans ((zO _ _ _ _ hn).trans ((zO _ _ _ _ hn).trans (zO _ _ _ _ hn)))).trans (b1.block b hl)
 have hW:=h.le hB;exact ⟨((((h.be.trans (b1.mono hW)).setCell hg.1 _).setCell hg.1 _).setCell hg.1 _).setCell hg.1 _,h.bx.blkM (hz _ z0 h.bx.ltM),h.ev.blk (hz _ z1 h.ev.lt),fun j hj hc=>(hz j ((zc j hj).trans hc) (Nat.lt_trans hj h.bx.ltM)).trans (h.kp j hj hc),_,up,_,uw,uh,o.putS hi hW b1 hu,(qat h.bx.ltM).trans z0,(qat h.ev.lt).trans z1,fun j hj=>(qat (Nat.lt_trans hj h.bx.ltM)).trans (zc j hj)⟩
def OwnK (z:Bool) (w:World) (B:Nat) (c0:Nat->Nat) (N:Nat) (y:Sy) (vp vs vw vh:Value):Prop:=∃ c up us uw uh,OwnS z w B c y vp vs vw vh up us uw uh/\∀ b,b<N->c b=c0 b
theorem OwnK.own {w:World} {B N:Nat} {c0:Nat->Nat} {y:Sy} {vp vs vw vh:Value} (h:OwnK z w B c0 N y vp vs vw vh):qam z w B y (.agg #[vp,vs,vw,vh]):=by
 obtain ⟨c,up,us,uw,uh,o,-⟩:=h;exact ⟨c,vp,vs,vw,vh,up,us,uw,uh,rfl,o⟩
theorem Hp.ownK {w wx:World} {B:Nat} {c0:Nat->Nat} {k q v:Int} {y:Sy} {vp vs vw vh:Value} (h:Hp z w B c0 k q v y vp vs vw vh wx):OwnK z wx B c0 w.heap.size y vp vs vw vh:=by
 obtain ⟨c,up,us,uw,uh,o,-,-,hc⟩:=h.ow;exact ⟨c,up,us,uw,uh,o,hc⟩
variable {z:Bool}
theorem qo6 (y:Sy) (p:Nat) (k q v0:Int) (w:World) (B:Nat) (c:Nat->Nat) (vp vs vw vh:Value) (up us uw uh:Nat->Value) (o:OwnS z w B c y vp vs vw vh up us uw uh) (hB:B<=w.heap.size) (hO:y.Ok) (hp:p<y.pn) (hk2:k=2->0<=q/\q<y.pn) (hk3:k=3->0<=q/\q<y.pn/\0<y.wL (q.toNat*y.pn+p)):
  Calls prog 39 #[.agg #[vp,vs,vw,vh],iV p,evV k q v0] w fun e w'=>e=.returned (.tuple #[])/\Below B w w'/\(∀ b,b<w.heap.size->c b=0->w'.heap[b]? = w.heap[b]?)/\OwnK z w' B c w.heap.size ((y.evt p k q v0).way p k q v0) vp vs vw vh:=by
 obtain ⟨⟨h1,h4⟩,hs,hh,hw⟩:=hO.cn;have hps:p<y.sn:=by omega
 have hph:p<y.hn:=by omega
 have hw0:0<y.wn:=by rw [hw];exact Nat.mul_pos (by omega) (by omega)
 obtain ⟨gp,cp,rfl,-,-,-,-⟩:=o.p.cell hp;obtain ⟨gs,cs,rfl,-,-,-,-⟩:=o.s.cell hps;obtain ⟨gh,ch,rfl,-,-,-,-⟩:=o.h.cell hph;obtain ⟨gw,cw,rfl,-,-,-,-⟩:=o.t.cell hw0;have hL200:y.hL p<=200:=hO.le200 hp;have HP4:Hid (qac (y.pH p) (y.pL p) 4=true):=hO.four hp;have HST:Hid (OkS (y.pL p) (y.sS p)):=hO.st hp;have HLn:Hid (y.pL p<=maxLen/\(y.sS p).rs.length<=1048576/\(y.sS p).os.length<=1048576):=hO.lens hp;have HWY:Hid (∀ a b,a<y.pn->b<y.pn->y.wL (a*y.pn+b)<=12):=fun a b ha hb=>hO.way ha hb;have HK2:Hid (k=2->0<=q/\q<y.pn):=hk2;have HK3:Hid (k=3->0<=q/\q<y.pn/\0<y.wL (q.toNat*y.pn+p)):=hk3;have HN:Hid (y.sn=y.pn/\y.hn=y.pn/\y.wn=y.pn*y.pn):=⟨hs,hh,hw⟩
 have hp':(p:Int)<(y.pn:Int):=by omega
 have hps':(p:Int)<(y.sn:Int):=by omega
 have hph':(p:Int)<(y.hn:Int):=by omega
 have H0:Hid (Hp z w B c k q v0 y (sG gp y.pn cp) (sG gs y.sn cs) (sG gw y.wn cw) (sG gh y.hn ch) ((w.alloc (oQ4 (some (aQ gp 0)) y.pn cp (some (aQ gs 0)) y.sn cs (some (aQ gw 0)) y.wn cw (some (aQ gh 0)) y.hn ch)).alloc (oQ0 k q v0))):=by
  have b1:=zQ w (oQ4 (some (aQ gp 0)) y.pn cp (some (aQ gs 0)) y.sn cs (some (aQ gw 0)) y.wn cw (some (aQ gh 0)) y.hn ch);have b2:=zQ (w.alloc (oQ4 (some (aQ gp 0)) y.pn cp (some (aQ gs 0)) y.sn cs (some (aQ gw 0)) y.wn cw (some (aQ gh 0)) y.hn ch)) (oQ0 k q v0);have b:=b1.trans (b2.mono b1.size);exact ⟨b.mono hB,(BoxC.new w _ _ _ _ _).bw b2,by simpa using EvK.new (w.alloc (oQ4 (some (aQ gp 0)) y.pn cp (some (aQ gs 0)) y.sn cs (some (aQ gw 0)) y.wn cw (some (aQ gh 0)) y.hn ch)) k q v0 47,fun j hj _=>b.block j hj,_,up,us,uw,uh,(o.recol 0).bw b,qai (nA _),qai (nK _),fun j hj=>qat hj⟩
 clear o hO hk2 hk3 hw0 hs hh hw
 go_enter func39,ntmps39
 go_upto_region 1 with fail
 generalize (w.alloc (oQ4 (some (aQ gp 0)) y.pn cp (some (aQ gs 0)) y.sn cs (some (aQ gw 0)) y.wn cw (some (aQ gh 0)) y.hn ch)).alloc (oQ0 k q v0)=W2 at *;obtain ⟨c9,up9,us9,uw9,uh9,o9,-,-,-⟩:=H0.ow;obtain ⟨b0,b1,b2,b3⟩:=H0.bx;obtain ⟨k0,k1,k2,kf⟩:=id H0.ev;have m0:=H0.bx.ltM;have mN:=H0.ev.lt;obtain ⟨g9,k9,ew,-,lp,cellp,-⟩:=o9.p.cell hp;simp only [Value.slice.injEq,nG,Addr.mk.injEq,and_true,true_and] at ew;obtain ⟨rfl,rfl⟩:=ew;obtain ⟨b9,cb9,eup,hb9,hI,-⟩:=atI (o9.p.own p hp) (o9.p.nn nzI p hp);rw [eup] at cellp;obtain ⟨g9,k9,ew,-,ls,cels,fs⟩:=o9.s.cell hps;simp only [Value.slice.injEq,nG,Addr.mk.injEq,and_true,true_and] at ew;obtain ⟨rfl,rfl⟩:=ew;obtain ⟨ra9,rc9,oa9,oc9,eus,s0,s1,s2,s3⟩:=cels
 have hsl:Sl W2 ra9 (y.sS p).rs/\Sl W2 oa9 (y.sS p).os:=by
  have h4:=o9.s.own p hps;rw [eus] at h4;exact ⟨h4.parts.1.slOf,h4.parts.2.1.slOf⟩
 clear eup eus;refine qah (fun w'=>w'.cell? (aQ w.heap.size 0)=some (sG gp y.pn cp)/\w'.cell? (aQ w.heap.size 1)=some (sG gs y.sn cs)/\w'.cell? (aQ gp p)=some (sG b9 (y.pL p) cb9)/\w'.cell? ⟨gs,p*4,none⟩=some (iV (y.sS p).p)/\w'.cell? ⟨gs,p*4+1,none⟩=some (.slice ra9 (y.sS p).rs.length rc9)/\w'.cell? ⟨gs,p*4+2,none⟩=some (.slice oa9 (y.sS p).os.length oc9)/\w'.cell? ⟨gs,p*4+3,none⟩=some (iV (y.sS p).c)/\w'.cell? ⟨w.heap.size+1,0,none⟩=some (iV k)/\w'.cell? ⟨w.heap.size+1,1,none⟩=some (iV q)/\w'.cell? ⟨w.heap.size+1,2,none⟩=some (iV v0)) (fun i=>i == 19) (by kernel_rfl) ?_;have hHeld:(fun w'=>w'.cell? (aQ w.heap.size 0)=some (sG gp y.pn cp)/\w'.cell? (aQ w.heap.size 1)=some (sG gs y.sn cs)/\w'.cell? (aQ gp p)=some (sG b9 (y.pL p) cb9)/\w'.cell? ⟨gs,p*4,none⟩=some (iV (y.sS p).p)/\w'.cell? ⟨gs,p*4+1,none⟩=some (.slice ra9 (y.sS p).rs.length rc9)/\w'.cell? ⟨gs,p*4+2,none⟩=some (.slice oa9 (y.sS p).os.length oc9)/\w'.cell? ⟨gs,p*4+3,none⟩=some (iV (y.sS p).c)/\w'.cell? ⟨w.heap.size+1,0,none⟩=some (iV k)/\w'.cell? ⟨w.heap.size+1,1,none⟩=some (iV q)/\w'.cell? ⟨w.heap.size+1,2,none⟩=some (iV v0)) W2.drew:=⟨b0,b1,cellp,s0,s1,s2,s3,k0,k1,k2⟩
 refine qa0 [0,1,2,3,4,5,6,7,8,9,10,11,12,13] ?_;iterate 14 (refine qba rfl hHeld ?_)
 refine qav ?_;refine yW 14 rfl fun K hK=>?_;refine qag rfl 81 _ _ rfl #[.slice (some (aQ b9 0)) (y.pL p) cb9,stV (y.sS p).p ra9 (y.sS p).rs.length rc9 oa9 (y.sS p).os.length oc9 (y.sS p).c,evV k q v0] (by simp [Act.eval]) (yB func81) (qnx b9 0 (y.pL p) cb9 (y.pH p) (y.sS p).p (y.sS p).c ra9 oa9 rc9 oc9 (y.sS p).rs (y.sS p).os k q v0 W2.drew HLn.1 hb9 hI HLn.2.1 HLn.2.2 hsl.1 hsl.2 HP4.out) ?_;rintro e w5 ⟨u5,rfl,o5,d5⟩;refine ⟨_,rfl,?_⟩;have HT:Hid (y.evt p k q v0=(y.setS p (doS (y.pH p) (y.pL p) (y.sS p).p (y.sS p).rs (y.sS p).os (y.sS p).c k q v0)).setH p (y.hL p+1) (fun i=>if i=y.hL p then ⟨k,q,v0⟩ else y.hH p i)):=rfl;generalize doS (y.pH p) (y.pL p) (y.sS p).p (y.sS p).rs (y.sS p).os (y.sS p).c k q v0=T at o5 HT;generalize doB (y.pH p) (y.pL p) (y.sS p).p (y.sS p).rs (y.sS p).os (y.sS p).c k q v0=tb;obtain ⟨ra5,rc5,oa5,oc5,rfl,-,-⟩:=o5.read;have q5:Bw W2 w5:=(nE W2.heap.size W2).drew.trans d5;have hc5:=(qae q5).1;have hHeld5:(fun w'=>w'.cell? (aQ w.heap.size 0)=some (sG gp y.pn cp)/\w'.cell? (aQ w.heap.size 1)=some (sG gs y.sn cs)/\w'.cell? (aQ gp p)=some (sG b9 (y.pL p) cb9)/\w'.cell? ⟨gs,p*4,none⟩=some (iV (y.sS p).p)/\w'.cell? ⟨gs,p*4+1,none⟩=some (.slice ra9 (y.sS p).rs.length rc9)/\w'.cell? ⟨gs,p*4+2,none⟩=some (.slice oa9 (y.sS p).os.length oc9)/\w'.cell? ⟨gs,p*4+3,none⟩=some (iV (y.sS p).c)/\w'.cell? ⟨w.heap.size+1,0,none⟩=some (iV k)/\w'.cell? ⟨w.heap.size+1,1,none⟩=some (iV q)/\w'.cell? ⟨w.heap.size+1,2,none⟩=some (iV v0)) w5:=⟨(hc5 _ _ m0).trans b0,(hc5 _ _ m0).trans b1,(hc5 _ _ lp).trans cellp,(hc5 _ _ ls).trans s0,(hc5 _ _ ls).trans s1,(hc5 _ _ ls).trans s2,(hc5 _ _ ls).trans s3,(hc5 _ _ mN).trans k0,(hc5 _ _ mN).trans k1,(hc5 _ _ mN).trans k2⟩
 have hf5:∀ j,w5.frozen? ⟨gs,j,none⟩=false:=fun j=>((qae q5).2 _ j ls).trans (fs j);have H1:Hid (Hp z w B c k q v0 (y.setS p T) (sG gp y.pn cp) (sG gs y.sn cs) (sG gw y.wn cw) (sG gh y.hn ch) ((((w5.setCell ⟨gs,p*4,none⟩ (iV T.p)).setCell ⟨gs,p*4+1,none⟩ (.slice ra5 T.rs.length rc5)).setCell ⟨gs,p*4+2,none⟩ (.slice oa5 T.os.length oc5)).setCell ⟨gs,p*4+3,none⟩ (iV T.c))):=H0.putS hB hps q5 (o5.mono (by simp));refine hK.out _ _ (fun _=>hHeld5) ?_;clear hHeld;have hHeld:=hHeld5;clear hHeld5 hc5 d5;clear hK K;refine qbn 15 rfl hHeld ?_;refine qbn 16 rfl hHeld ?_;refine qdm 17 rfl (by kernel_rfl) (by kernel_rfl) (by kernel_rfl) (fun _ _ _ _ h=>h) (by rfl) ?_;apply Exists.intro;refine ⟨fun wq=>?_,?_⟩
 ·go_simp
  try with_reducible rfl
 refine qbn 18 rfl hHeld ?_;refine yW 19 rfl fun K hK=>?_;obtain ⟨-,-,-,p0,p1,p2,p3,-⟩:=hHeld;go_simp;refine hK.out _ _ (fun h=>?_) ?_
 ·exact absurd h (by decide)
 clear hK K
 (try simp only [Act.put,zD,zE,zF])
 refine yX ?_ _;clear o9 hb9 hI hsl b0 b1 b2 b3 k0 k1 k2 kf m0 mN lp cellp ls fs s0 s1 s2 s3 q5 hf5 p0 p1 p2 p3 o5;go_upto_region 2 with fail
 generalize ((((w5.setCell ⟨gs,p*4,none⟩ (iV T.p)).setCell ⟨gs,p*4+1,none⟩ (.slice ra5 T.rs.length rc5)).setCell ⟨gs,p*4+2,none⟩ (.slice oa5 T.os.length oc5)).setCell ⟨gs,p*4+3,none⟩ (iV T.c))=W3 at *;clear H0;obtain ⟨c9,up9,us9,uw9,uh9,o9,-,-,-⟩:=H1.ow;obtain ⟨b0,b1,b2,b3⟩:=H1.bx;obtain ⟨k0,k1,k2,kf⟩:=id H1.ev;have m0:=H1.bx.ltM;have mN:=H1.ev.lt;have OH9:LE z W3 (Cl B c9 4) (sG gh y.hn ch) y.hn uh9 y.hL y.hH:=o9.h;obtain ⟨g9,k9,ew,-,lh,cellh,fh⟩:=OH9.cell hph;simp only [Value.slice.injEq,nG,Addr.mk.injEq,and_true,true_and] at ew;obtain ⟨rfl,rfl⟩:=ew;clear OH9
 have HEq:Hid (∀ wx,Bw W3 wx->Calls prog 82 #[sysV (some ⟨gp,0,none⟩) y.pn cp (some ⟨gs,0,none⟩) y.sn cs (some ⟨gw,0,none⟩) y.wn cw (some ⟨gh,0,none⟩) y.hn ch,iV p] wx (rB wx (.agg #[.slice (adOf (uh9 p)) (y.hL p) (cpOf (uh9 p)),iV 200]))):=fun wx hb=>by
  have h:=qew _ p wx (o9.g.bw hb) hph;rw [o9.v] at h;exact h
 have HWi:Hid (∀ wx,Bw W3 wx->Calls prog 83 #[.agg #[.slice (adOf (uh9 p)) (y.hL p) (cpOf (uh9 p)),iV 200],.agg #[iV k,iV q,iV v0]] wx fun e w'=>∃ v,e=.returned v/\w'.ownsRow wx.heap.size 47 3 v (y.hL p+1) (fE (fun i=>if i=y.hL p then ⟨k,q,v0⟩ else y.hH p i) (y.hL p+1))/\v≠nS/\Bw wx w'):=fun wx hb=>qkd _ (y.hL p) _ 200 (y.hH p) ⟨k,q,v0⟩ wx (by omega) (srcE ((o9.g.bw hb).hi p hph));refine qah (fun w'=>w'.cell? (aQ w.heap.size 0)=some (sG gp y.pn cp)/\w'.cell? (aQ w.heap.size 1)=some (sG gs y.sn cs)/\w'.cell? (aQ w.heap.size 2)=some (sG gw y.wn cw)/\w'.cell? (aQ w.heap.size 3)=some (sG gh y.hn ch)/\w'.cell? ⟨w.heap.size+1,0,none⟩=some (iV k)/\w'.cell? ⟨w.heap.size+1,1,none⟩=some (iV q)/\w'.cell? ⟨w.heap.size+1,2,none⟩=some (iV v0)/\w'.cell? (aQ gh p)=some (uh9 p)) (fun i=>i == 9) (by kernel_rfl) ?_;have hHeld:(fun w'=>w'.cell? (aQ w.heap.size 0)=some (sG gp y.pn cp)/\w'.cell? (aQ w.heap.size 1)=some (sG gs y.sn cs)/\w'.cell? (aQ w.heap.size 2)=some (sG gw y.wn cw)/\w'.cell? (aQ w.heap.size 3)=some (sG gh y.hn ch)/\w'.cell? ⟨w.heap.size+1,0,none⟩=some (iV k)/\w'.cell? ⟨w.heap.size+1,1,none⟩=some (iV q)/\w'.cell? ⟨w.heap.size+1,2,none⟩=some (iV v0)/\w'.cell? (aQ gh p)=some (uh9 p)) W3.drew:=⟨b0,b1,b2,b3,k0,k1,k2,cellh⟩
 refine qa0 [0,1,2,3,4,6] ?_;iterate 6 (refine qba rfl hHeld ?_)
 refine qav ?_;refine yW 5 rfl fun K hK=>?_;refine qag rfl 82 _ _ rfl #[sysV (some (aQ gp 0)) y.pn cp (some (aQ gs 0)) y.sn cs (some (aQ gw 0)) y.wn cw (some (aQ gh 0)) y.hn ch,iV p] (by simp [Act.eval]) (yB func82) (HEq.out W3.drew (nE W3.heap.size W3).drew) ?_;rintro e w5 ⟨rfl,d5⟩;refine ⟨_,rfl,?_⟩;have q5:Bw W3 w5:=(nE W3.heap.size W3).drew.trans d5;have hc5:=(qae q5).1;refine hK.out _ _ (fun _=>⟨(hc5 _ _ m0).trans b0,(hc5 _ _ m0).trans b1,(hc5 _ _ m0).trans b2,(hc5 _ _ m0).trans b3,(hc5 _ _ mN).trans k0,(hc5 _ _ mN).trans k1,(hc5 _ _ mN).trans k2,(hc5 _ _ lh).trans cellh⟩) ?_;clear hc5 d5;clear hK K
 (try simp only [Act.put,zD,zE,zF])
 refine yW 7 rfl fun K hK=>?_;refine qag rfl 83 _ _ rfl #[.agg #[.slice (adOf (uh9 p)) (y.hL p) (cpOf (uh9 p)),iV 200],.agg #[iV k,iV q,iV v0]] (by simp [Act.eval]) (yB func83) (HWi.out w5 q5) ?_;rintro e w6 ⟨v6,rfl,o6,n6,d6⟩;refine ⟨_,rfl,?_⟩;have q6:Bw W3 w6:=q5.trans (d6.mono q5.size);have hc6:=(qae q6).1;have hHeld6:(fun w'=>w'.cell? (aQ w.heap.size 0)=some (sG gp y.pn cp)/\w'.cell? (aQ w.heap.size 1)=some (sG gs y.sn cs)/\w'.cell? (aQ w.heap.size 2)=some (sG gw y.wn cw)/\w'.cell? (aQ w.heap.size 3)=some (sG gh y.hn ch)/\w'.cell? ⟨w.heap.size+1,0,none⟩=some (iV k)/\w'.cell? ⟨w.heap.size+1,1,none⟩=some (iV q)/\w'.cell? ⟨w.heap.size+1,2,none⟩=some (iV v0)/\w'.cell? (aQ gh p)=some (uh9 p)) w6:=⟨(hc6 _ _ m0).trans b0,(hc6 _ _ m0).trans b1,(hc6 _ _ m0).trans b2,(hc6 _ _ m0).trans b3,(hc6 _ _ mN).trans k0,(hc6 _ _ mN).trans k1,(hc6 _ _ mN).trans k2,(hc6 _ _ lh).trans cellh⟩
 have hf6:∀ j,w6.frozen? ⟨gh,j,none⟩=false:=fun j=>((qae q6).2 _ j lh).trans (fh j);obtain ⟨a6,c6,rfl⟩:=zU o6
 have H2:Hid (Hp z w B c k q v0 (y.evt p k q v0) (sG gp y.pn cp) (sG gs y.sn cs) (sG gw y.wn cw) (sG gh y.hn ch) (w6.setCell (aQ gh p) (.slice a6 (y.hL p+1) c6))):=by
  have h:=H1.putH hB hph q6 (o6.mono q5.size) n6;show Hp z w B c k q v0 (y.evt p k q v0) (sG gp y.pn cp) (sG gs y.sn cs) (sG gw y.wn cw) (sG gh y.hn ch) _;rw [HT.out];exact h
 refine hK.out _ _ (fun _=>hHeld6) ?_;clear hHeld;have hHeld:=hHeld6;clear hHeld6 hc6 d6 o6 n6;clear hK K;refine qbn 8 rfl hHeld ?_;refine yW 9 rfl fun K hK=>?_;have hcN:=hHeld.2.2.2.2.2.2.2;have hfN:=hf6 p;go_simp;refine hK.out _ _ (fun h=>?_) ?_
 ·exact absurd h (by decide)
 clear hK K
 (try simp only [Act.put,zD,zE,zF])
 refine yX ?_ _;clear o9 b0 b1 b2 b3 k0 k1 k2 kf m0 mN lh cellh fh q5 q6 hf6 hcN hfN HEq HWi hHeld HT;go_upto_region 3 with fail
 generalize w6.setCell (aQ gh p) (.slice a6 (y.hL p+1) c6)=W4 at *;clear H1
 rcases zK (k == 2) with t2 | t2
 ·have hk:k=2:=by simpa using t2
  obtain ⟨g1,g2⟩:=HK2.out hk;obtain ⟨r,rfl⟩:∃ r:Nat,q=r:=⟨q.toNat,by omega⟩
  have hr:r<y.pn:=by omega
  have hJ:p*y.pn+r<y.wn:=by rw [HN.2.2];exact ql2 hp hr
  have h12:y.wL (p*y.pn+r)<=12:=HWY.out p r hp hr;have hr4:r<4:=by omega
  have hp4:p<4:=by omega
  have HY:Hid ((y.evt p k (r:Int) v0).way p k (r:Int) v0=(y.evt p k (r:Int) v0).setW (p*y.pn+r) (y.wL (p*y.pn+r)+1) (fun i=>if i=y.wL (p*y.pn+r) then ⟨false,v0⟩ else y.wH (p*y.pn+r) i)):=by
   show (y.evt p k (r:Int) v0).way p k (r:Int) v0=_;rw [show (y.evt p k (r:Int) v0).way p k (r:Int) v0=(y.evt p k (r:Int) v0).way p 2 (r:Int) v0 by rw [hk],Sy.way_send];rfl
  have HNu0:∀ x:SysIn,x.pn=y.pn->∀ wx,Calls prog 86 #[x.v,iV p,iV r] wx (rB wx (iV (p*y.pn+r:Nat))):=fun x e wx=>by
   have h:=qdy x p r wx hp4 hr4 (by omega);rw [e] at h;exact h
  have HQu0:∀ x:SysIn,x.pn=y.pn->∀ wx,SysG wx x->p*y.pn+r<x.wn->Calls prog 84 #[x.v,iV p,iV r] wx (rB wx (.agg #[.slice (x.wA (p*y.pn+r)) (x.wL (p*y.pn+r)) (x.wC (p*y.pn+r)),iV 12])):=fun x e wx hg hw=>by
   have h:=qdb x p r wx hg hp4 hr4 (by omega) (by rw [e];exact hw);rw [e] at h;exact h
  generalize p*y.pn+r=J at *;have hJ':(J:Int)<(y.wn:Int):=by omega
  obtain ⟨c9,up9,us9,uw9,uh9,o9,-,-,-⟩:=H2.ow;obtain ⟨b0,b1,b2,b3⟩:=H2.bx;obtain ⟨k0,k1,k2,kf⟩:=id H2.ev;have m0:=H2.bx.ltM;have mN:=H2.ev.lt;have OT9:LT z W4 (Cl B c9 3) (sG gw y.wn cw) y.wn uw9 y.wL y.wH:=o9.t;obtain ⟨g9,k9,ew,-,lw,cellw,fw⟩:=OT9.cell hJ;simp only [Value.slice.injEq,nG,Addr.mk.injEq,and_true,true_and] at ew;obtain ⟨rfl,rfl⟩:=ew
  have HNu:Hid (∀ wx,Calls prog 86 #[sysV (some ⟨gp,0,none⟩) y.pn cp (some ⟨gs,0,none⟩) y.sn cs (some ⟨gw,0,none⟩) y.wn cw (some ⟨gh,0,none⟩) y.hn ch,iV p,iV r] wx (rB wx (iV (J:Nat)))):=fun wx=>by
   have h:=HNu0 ((y.evt p k (r:Int) v0).sysIn (sG gp y.pn cp) (sG gs y.sn cs) (sG gw y.wn cw) (sG gh y.hn ch) up9 us9 uw9 uh9) rfl wx;rw [o9.v] at h;exact h
  have HQu:Hid (∀ wx,Bw W4 wx->Calls prog 84 #[sysV (some ⟨gp,0,none⟩) y.pn cp (some ⟨gs,0,none⟩) y.sn cs (some ⟨gw,0,none⟩) y.wn cw (some ⟨gh,0,none⟩) y.hn ch,iV p,iV r] wx (rB wx (.agg #[.slice (adOf (uw9 J)) (y.wL J) (cpOf (uw9 J)),iV 12]))):=fun wx hb=>by
   have h:=HQu0 ((y.evt p k (r:Int) v0).sysIn (sG gp y.pn cp) (sG gs y.sn cs) (sG gw y.wn cw) (sG gh y.hn ch) up9 us9 uw9 uh9) rfl wx (o9.g.bw hb) hJ;rw [o9.v] at h;exact h
  have HWi:Hid (∀ wx,Bw W4 wx->Calls prog 85 #[.agg #[.slice (adOf (uw9 J)) (y.wL J) (cpOf (uw9 J)),iV 12],.agg #[.bool false,iV v0]] wx fun e w'=>∃ a c,e=.returned (.slice a (y.wL J+1) c)/\w'.ownsRow wx.heap.size 94 2 (.slice a (y.wL J+1) c) (y.wL J+1) (fT (fun i=>if i=y.wL J then ⟨false,v0⟩ else y.wH J i) (y.wL J+1))/\Value.slice a (y.wL J+1) c≠nS/\Bw wx w'):=fun wx hb=>(ql4 _ (y.wL J) _ 12 (y.wH J) ⟨false,v0⟩ wx (by omega) (srcT ((o9.g.bw hb).wi J hJ))).mono fun e w' ⟨v,e1,e2,e3,e4⟩=>by
   obtain ⟨a,c,rfl⟩:=zU e2;exact ⟨a,c,e1,e2,e3,e4⟩
  clear HNu0 HQu0 o9 OT9 hk;go_upto_region 5 with fail
  refine qah (fun w'=>w'.cell? (aQ w.heap.size 0)=some (sG gp y.pn cp)/\w'.cell? (aQ w.heap.size 1)=some (sG gs y.sn cs)/\w'.cell? (aQ w.heap.size 2)=some (sG gw y.wn cw)/\w'.cell? (aQ w.heap.size 3)=some (sG gh y.hn ch)/\w'.cell? ⟨w.heap.size+1,1,none⟩=some (iV (r:Int))/\w'.cell? ⟨w.heap.size+1,2,none⟩=some (iV v0)/\w'.cell? (aQ gw J)=some (uw9 J)) (fun i=>i == 17) (by kernel_rfl) ?_;have hHeld:(fun w'=>w'.cell? (aQ w.heap.size 0)=some (sG gp y.pn cp)/\w'.cell? (aQ w.heap.size 1)=some (sG gs y.sn cs)/\w'.cell? (aQ w.heap.size 2)=some (sG gw y.wn cw)/\w'.cell? (aQ w.heap.size 3)=some (sG gh y.hn ch)/\w'.cell? ⟨w.heap.size+1,1,none⟩=some (iV (r:Int))/\w'.cell? ⟨w.heap.size+1,2,none⟩=some (iV v0)/\w'.cell? (aQ gw J)=some (uw9 J)) W4.drew:=⟨b0,b1,b2,b3,k1,k2,cellw⟩
  have q0:Bw W4 W4.drew:=(nE W4.heap.size W4).drew;refine qa0 [0,1,2,3,4,5,7,8,9,10,12,13,14] ?_;iterate 13 (refine qba rfl hHeld ?_)
  refine qav ?_;refine yW 6 rfl fun K hK=>?_;refine qag rfl 86 _ _ rfl #[sysV (some (aQ gp 0)) y.pn cp (some (aQ gs 0)) y.sn cs (some (aQ gw 0)) y.wn cw (some (aQ gh 0)) y.hn ch,iV (p:Nat),iV (r:Nat)] (by simp [Act.eval]) (yB func86) (HNu.out W4.drew) ?_;rintro e wa ⟨rfl,d5⟩;refine ⟨_,rfl,?_⟩;have qwa:Bw W4 wa:=q0.trans (d5.mono q0.size);have hcwa:=(qae qwa).1;have hHeldwa:(fun w'=>w'.cell? (aQ w.heap.size 0)=some (sG gp y.pn cp)/\w'.cell? (aQ w.heap.size 1)=some (sG gs y.sn cs)/\w'.cell? (aQ w.heap.size 2)=some (sG gw y.wn cw)/\w'.cell? (aQ w.heap.size 3)=some (sG gh y.hn ch)/\w'.cell? ⟨w.heap.size+1,1,none⟩=some (iV (r:Int))/\w'.cell? ⟨w.heap.size+1,2,none⟩=some (iV v0)/\w'.cell? (aQ gw J)=some (uw9 J)) wa:=⟨(hcwa _ _ m0).trans b0,(hcwa _ _ m0).trans b1,(hcwa _ _ m0).trans b2,(hcwa _ _ m0).trans b3,(hcwa _ _ mN).trans k1,(hcwa _ _ mN).trans k2,(hcwa _ _ lw).trans cellw⟩
  refine hK.out _ _ (fun _=>hHeldwa) ?_;clear hK K d5
  (try simp only [Act.put,zD,zE,zF])
  refine yW 11 rfl fun K hK=>?_;refine qag rfl 84 _ _ rfl #[sysV (some (aQ gp 0)) y.pn cp (some (aQ gs 0)) y.sn cs (some (aQ gw 0)) y.wn cw (some (aQ gh 0)) y.hn ch,iV (p:Nat),iV (r:Nat)] (by simp [Act.eval]) (yB func84) (HQu.out wa qwa) ?_;rintro e wb ⟨rfl,d5⟩;refine ⟨_,rfl,?_⟩;have qwb:Bw W4 wb:=qwa.trans (d5.mono qwa.size);have hcwb:=(qae qwb).1;have hHeldwb:(fun w'=>w'.cell? (aQ w.heap.size 0)=some (sG gp y.pn cp)/\w'.cell? (aQ w.heap.size 1)=some (sG gs y.sn cs)/\w'.cell? (aQ w.heap.size 2)=some (sG gw y.wn cw)/\w'.cell? (aQ w.heap.size 3)=some (sG gh y.hn ch)/\w'.cell? ⟨w.heap.size+1,1,none⟩=some (iV (r:Int))/\w'.cell? ⟨w.heap.size+1,2,none⟩=some (iV v0)/\w'.cell? (aQ gw J)=some (uw9 J)) wb:=⟨(hcwb _ _ m0).trans b0,(hcwb _ _ m0).trans b1,(hcwb _ _ m0).trans b2,(hcwb _ _ m0).trans b3,(hcwb _ _ mN).trans k1,(hcwb _ _ mN).trans k2,(hcwb _ _ lw).trans cellw⟩
  refine hK.out _ _ (fun _=>hHeldwb) ?_;clear hK K d5
  (try simp only [Act.put,zD,zE,zF])
  refine yW 15 rfl fun K hK=>?_;refine qag rfl 85 _ _ rfl #[.agg #[.slice (adOf (uw9 J)) (y.wL J) (cpOf (uw9 J)),iV 12],.agg #[.bool false,iV v0]] (by simp [Act.eval]) (yB func85) (HWi.out wb qwb) ?_;rintro e wd ⟨a6,c6,rfl,o6,n6,d6⟩;refine ⟨_,rfl,?_⟩;have qwd:Bw W4 wd:=qwb.trans (d6.mono qwb.size);have hcwd:=(qae qwd).1;have hHeldwd:(fun w'=>w'.cell? (aQ w.heap.size 0)=some (sG gp y.pn cp)/\w'.cell? (aQ w.heap.size 1)=some (sG gs y.sn cs)/\w'.cell? (aQ w.heap.size 2)=some (sG gw y.wn cw)/\w'.cell? (aQ w.heap.size 3)=some (sG gh y.hn ch)/\w'.cell? ⟨w.heap.size+1,1,none⟩=some (iV (r:Int))/\w'.cell? ⟨w.heap.size+1,2,none⟩=some (iV v0)/\w'.cell? (aQ gw J)=some (uw9 J)) wd:=⟨(hcwd _ _ m0).trans b0,(hcwd _ _ m0).trans b1,(hcwd _ _ m0).trans b2,(hcwd _ _ m0).trans b3,(hcwd _ _ mN).trans k1,(hcwd _ _ mN).trans k2,(hcwd _ _ lw).trans cellw⟩
  replace o6:=o6.mono qwb.size;have hfw:∀ j,wd.frozen? ⟨gw,j,none⟩=false:=fun j=>((qae qwd).2 _ j lw).trans (fw j);have H3:Hid (Hp z w B c k (r:Int) v0 ((y.evt p k (r:Int) v0).setW J (y.wL J+1) (fun i=>if i=y.wL J then ⟨false,v0⟩ else y.wH J i)) (sG gp y.pn cp) (sG gs y.sn cs) (sG gw y.wn cw) (sG gh y.hn ch) (wd.setCell (aQ gw J) (.slice a6 (y.wL J+1) c6))):=H2.putW hB hJ qwd o6 n6;refine hK.out _ _ (fun _=>hHeldwd) ?_;clear hHeld;have hHeld:=hHeldwd;clear hK K;refine qbn 16 rfl hHeld ?_;refine yW 17 rfl fun K hK=>?_;have hcN:=hHeld.2.2.2.2.2.2;have hfN:=hfw J;go_simp;refine hK.out _ _ (fun h=>?_) ?_
  ·exact absurd h (by decide)
  clear hK K
  (try simp only [Act.put,zD,zE,zF])
  refine yX ?_ _;clear hcN hfN hHeld hfw;go_wp2_with fail
  go_end0
  exact ⟨rfl, H3.be, H3.kp, by
   rw [HY.out]
   exact H3.ownK⟩
 rcases zK (k == 3) with t3 | t3
 ·have hk:k=3:=by simpa using t3
  obtain ⟨g1,g2,g3⟩:=HK3.out hk;obtain ⟨r,rfl⟩:∃ r:Nat,q=r:=⟨q.toNat,by omega⟩
  rw [nF] at g3;have hr:r<y.pn:=by omega
  have hJ:r*y.pn+p<y.wn:=by rw [HN.2.2];exact ql2 hr hp
  have h12:y.wL (r*y.pn+p)<=12:=HWY.out r p hr hp;have hr4:r<4:=by omega
  have hp4:p<4:=by omega
  have HY:Hid ((y.evt p k (r:Int) v0).way p k (r:Int) v0=(y.evt p k (r:Int) v0).setW (r*y.pn+p) (y.wL (r*y.pn+p) - 1) (fun i=>y.wH (r*y.pn+p) (i+1))):=by
   show (y.evt p k (r:Int) v0).way p k (r:Int) v0=_;rw [show (y.evt p k (r:Int) v0).way p k (r:Int) v0=(y.evt p k (r:Int) v0).way p 3 (r:Int) v0 by rw [hk],Sy.way_take];rfl
  have HNu0:∀ x:SysIn,x.pn=y.pn->∀ wx,Calls prog 86 #[x.v,iV r,iV p] wx (rB wx (iV (r*y.pn+p:Nat))):=fun x e wx=>by
   have h:=qdy x r p wx hr4 hp4 (by omega);rw [e] at h;exact h
  have HQu0:∀ x:SysIn,x.pn=y.pn->∀ wx,SysG wx x->r*y.pn+p<x.wn->Calls prog 84 #[x.v,iV r,iV p] wx (rB wx (.agg #[.slice (x.wA (r*y.pn+p)) (x.wL (r*y.pn+p)) (x.wC (r*y.pn+p)),iV 12])):=fun x e wx hg hw=>by
   have h:=qdb x r p wx hg hr4 hp4 (by omega) (by rw [e];exact hw);rw [e] at h;exact h
  generalize r*y.pn+p=J at *;have hJ':(J:Int)<(y.wn:Int):=by omega
  obtain ⟨c9,up9,us9,uw9,uh9,o9,-,-,-⟩:=H2.ow;obtain ⟨b0,b1,b2,b3⟩:=H2.bx;obtain ⟨k0,k1,k2,kf⟩:=id H2.ev;have m0:=H2.bx.ltM;have mN:=H2.ev.lt;have OT9:LT z W4 (Cl B c9 3) (sG gw y.wn cw) y.wn uw9 y.wL y.wH:=o9.t;obtain ⟨g9,k9,ew,-,lw,cellw,fw⟩:=OT9.cell hJ;simp only [Value.slice.injEq,nG,Addr.mk.injEq,and_true,true_and] at ew;obtain ⟨rfl,rfl⟩:=ew;obtain ⟨bw,cbw,euw,hbw,hIt,hcapw⟩:=atT (OT9.own J hJ) ((qro (OT9.own J hJ)).resolve_left (by omega))
  have hcm:cbw<=maxLen:=by
   have h:=OT9.own J hJ;rw [euw] at h;exact qm5 h
  have HNu:Hid (∀ wx,Calls prog 86 #[sysV (some ⟨gp,0,none⟩) y.pn cp (some ⟨gs,0,none⟩) y.sn cs (some ⟨gw,0,none⟩) y.wn cw (some ⟨gh,0,none⟩) y.hn ch,iV r,iV p] wx (rB wx (iV (J:Nat)))):=fun wx=>by
   have h:=HNu0 ((y.evt p k (r:Int) v0).sysIn (sG gp y.pn cp) (sG gs y.sn cs) (sG gw y.wn cw) (sG gh y.hn ch) up9 us9 uw9 uh9) rfl wx;rw [o9.v] at h;exact h
  have HQu:Hid (∀ wx,Bw W4 wx->Calls prog 84 #[sysV (some ⟨gp,0,none⟩) y.pn cp (some ⟨gs,0,none⟩) y.sn cs (some ⟨gw,0,none⟩) y.wn cw (some ⟨gh,0,none⟩) y.hn ch,iV r,iV p] wx (rB wx (.agg #[.slice (some ⟨bw,0,none⟩) (y.wL J) cbw,iV 12]))):=fun wx hb=>by
   have h:=HQu0 ((y.evt p k (r:Int) v0).sysIn (sG gp y.pn cp) (sG gs y.sn cs) (sG gw y.wn cw) (sG gh y.hn ch) up9 us9 uw9 uh9) rfl wx (o9.g.bw hb) hJ;rw [o9.v] at h;refine h.mono fun e w' hh=>⟨hh.1.trans ?_,hh.2⟩
   show Ending.returned (.agg #[.slice (adOf (uw9 J)) (y.wL J) (cpOf (uw9 J)),iV 12])=_;rw [euw];rfl
  have HWi:Hid (∀ wx,Bw W4 wx->Calls prog 87 #[.agg #[.slice (some ⟨bw,0,none⟩) (y.wL J) cbw,iV 12]] wx fun e w'=>∃ a c,e=.returned (.slice a (y.wL J - 1) c)/\w'.ownsRow wx.heap.size 94 2 (.slice a (y.wL J - 1) c) (y.wL J - 1) (fT (fun i=>y.wH J (i+1)) (y.wL J - 1))/\Value.slice a (y.wL J - 1) c≠nS/\Bw wx w'):=fun wx hb=>qlj bw (y.wL J) cbw 12 (y.wH J) wx (by omega) (by omega) hcapw hcm (zL hbw hb.size) (hIt.bw hb hbw);clear HNu0 HQu0 o9 OT9 hk hIt;go_upto_region 7 with fail
  refine qah (fun w'=>w'.cell? (aQ w.heap.size 0)=some (sG gp y.pn cp)/\w'.cell? (aQ w.heap.size 1)=some (sG gs y.sn cs)/\w'.cell? (aQ w.heap.size 2)=some (sG gw y.wn cw)/\w'.cell? (aQ w.heap.size 3)=some (sG gh y.hn ch)/\w'.cell? ⟨w.heap.size+1,1,none⟩=some (iV (r:Int))/\w'.cell? ⟨w.heap.size+1,2,none⟩=some (iV v0)/\w'.cell? (aQ gw J)=some (uw9 J)) (fun i=>i == 14) (by kernel_rfl) ?_;have hHeld:(fun w'=>w'.cell? (aQ w.heap.size 0)=some (sG gp y.pn cp)/\w'.cell? (aQ w.heap.size 1)=some (sG gs y.sn cs)/\w'.cell? (aQ w.heap.size 2)=some (sG gw y.wn cw)/\w'.cell? (aQ w.heap.size 3)=some (sG gh y.hn ch)/\w'.cell? ⟨w.heap.size+1,1,none⟩=some (iV (r:Int))/\w'.cell? ⟨w.heap.size+1,2,none⟩=some (iV v0)/\w'.cell? (aQ gw J)=some (uw9 J)) W4.drew:=⟨b0,b1,b2,b3,k1,k2,cellw⟩
  have q0:Bw W4 W4.drew:=(nE W4.heap.size W4).drew;refine qa0 [0,1,2,3,4,5,7,8,9,10] ?_;iterate 10 (refine qba rfl hHeld ?_)
  refine qav ?_;refine yW 6 rfl fun K hK=>?_;refine qag rfl 86 _ _ rfl #[sysV (some (aQ gp 0)) y.pn cp (some (aQ gs 0)) y.sn cs (some (aQ gw 0)) y.wn cw (some (aQ gh 0)) y.hn ch,iV (r:Nat),iV (p:Nat)] (by simp [Act.eval]) (yB func86) (HNu.out W4.drew) ?_;rintro e wa ⟨rfl,d5⟩;refine ⟨_,rfl,?_⟩;have qwa:Bw W4 wa:=q0.trans (d5.mono q0.size);have hcwa:=(qae qwa).1;have hHeldwa:(fun w'=>w'.cell? (aQ w.heap.size 0)=some (sG gp y.pn cp)/\w'.cell? (aQ w.heap.size 1)=some (sG gs y.sn cs)/\w'.cell? (aQ w.heap.size 2)=some (sG gw y.wn cw)/\w'.cell? (aQ w.heap.size 3)=some (sG gh y.hn ch)/\w'.cell? ⟨w.heap.size+1,1,none⟩=some (iV (r:Int))/\w'.cell? ⟨w.heap.size+1,2,none⟩=some (iV v0)/\w'.cell? (aQ gw J)=some (uw9 J)) wa:=⟨(hcwa _ _ m0).trans b0,(hcwa _ _ m0).trans b1,(hcwa _ _ m0).trans b2,(hcwa _ _ m0).trans b3,(hcwa _ _ mN).trans k1,(hcwa _ _ mN).trans k2,(hcwa _ _ lw).trans cellw⟩
  refine hK.out _ _ (fun _=>hHeldwa) ?_;clear hK K d5
  (try simp only [Act.put,zD,zE,zF])
  refine yW 11 rfl fun K hK=>?_;refine qag rfl 84 _ _ rfl #[sysV (some (aQ gp 0)) y.pn cp (some (aQ gs 0)) y.sn cs (some (aQ gw 0)) y.wn cw (some (aQ gh 0)) y.hn ch,iV (r:Nat),iV (p:Nat)] (by simp [Act.eval]) (yB func84) (HQu.out wa qwa) ?_;rintro e wb ⟨rfl,d5⟩;refine ⟨_,rfl,?_⟩;have qwb:Bw W4 wb:=qwa.trans (d5.mono qwa.size);have hcwb:=(qae qwb).1;have hHeldwb:(fun w'=>w'.cell? (aQ w.heap.size 0)=some (sG gp y.pn cp)/\w'.cell? (aQ w.heap.size 1)=some (sG gs y.sn cs)/\w'.cell? (aQ w.heap.size 2)=some (sG gw y.wn cw)/\w'.cell? (aQ w.heap.size 3)=some (sG gh y.hn ch)/\w'.cell? ⟨w.heap.size+1,1,none⟩=some (iV (r:Int))/\w'.cell? ⟨w.heap.size+1,2,none⟩=some (iV v0)/\w'.cell? (aQ gw J)=some (uw9 J)) wb:=⟨(hcwb _ _ m0).trans b0,(hcwb _ _ m0).trans b1,(hcwb _ _ m0).trans b2,(hcwb _ _ m0).trans b3,(hcwb _ _ mN).trans k1,(hcwb _ _ mN).trans k2,(hcwb _ _ lw).trans cellw⟩
  refine hK.out _ _ (fun _=>hHeldwb) ?_;clear hK K d5
  (try simp only [Act.put,zD,zE,zF])
  refine yW 12 rfl fun K hK=>?_;refine qag rfl 87 _ _ rfl #[.agg #[.slice (some (aQ bw 0)) (y.wL J) cbw,iV 12]] (by simp [Act.eval]) (yB func87) (HWi.out wb qwb) ?_;rintro e wd ⟨a6,c6,rfl,o6,n6,d6⟩;refine ⟨_,rfl,?_⟩;have qwd:Bw W4 wd:=qwb.trans (d6.mono qwb.size);have hcwd:=(qae qwd).1;have hHeldwd:(fun w'=>w'.cell? (aQ w.heap.size 0)=some (sG gp y.pn cp)/\w'.cell? (aQ w.heap.size 1)=some (sG gs y.sn cs)/\w'.cell? (aQ w.heap.size 2)=some (sG gw y.wn cw)/\w'.cell? (aQ w.heap.size 3)=some (sG gh y.hn ch)/\w'.cell? ⟨w.heap.size+1,1,none⟩=some (iV (r:Int))/\w'.cell? ⟨w.heap.size+1,2,none⟩=some (iV v0)/\w'.cell? (aQ gw J)=some (uw9 J)) wd:=⟨(hcwd _ _ m0).trans b0,(hcwd _ _ m0).trans b1,(hcwd _ _ m0).trans b2,(hcwd _ _ m0).trans b3,(hcwd _ _ mN).trans k1,(hcwd _ _ mN).trans k2,(hcwd _ _ lw).trans cellw⟩
  replace o6:=o6.mono qwb.size;have hfw:∀ j,wd.frozen? ⟨gw,j,none⟩=false:=fun j=>((qae qwd).2 _ j lw).trans (fw j);have H3:Hid (Hp z w B c k (r:Int) v0 ((y.evt p k (r:Int) v0).setW J (y.wL J - 1) (fun i=>y.wH J (i+1))) (sG gp y.pn cp) (sG gs y.sn cs) (sG gw y.wn cw) (sG gh y.hn ch) (wd.setCell (aQ gw J) (.slice a6 (y.wL J - 1) c6))):=H2.putW hB hJ qwd o6 n6;refine hK.out _ _ (fun _=>hHeldwd) ?_;clear hHeld;have hHeld:=hHeldwd;clear hK K;refine qbn 13 rfl hHeld ?_;refine yW 14 rfl fun K hK=>?_;have hcN:=hHeld.2.2.2.2.2.2;have hfN:=hfw J;go_simp;refine hK.out _ _ (fun h=>?_) ?_
  ·exact absurd h (by decide)
  clear hK K
  (try simp only [Act.put,zD,zE,zF])
  refine yX ?_ _;clear hcN hfN hHeld hfw;go_wp2_with fail
  go_end0
  exact ⟨rfl, H3.be, H3.kp, by
   rw [HY.out]
   exact H3.ownK⟩
 ·have hk2:k≠2:=by simpa using t2
  have hk3:k≠3:=by simpa using t3
  have HY:Hid ((y.evt p k q v0).way p k q v0=y.evt p k q v0):=Sy.way_no _ p hk2 hk3 q v0;obtain ⟨k0,k1,k2,kf⟩:=H2.ev;clear hk2 hk3;go_wp2_with fail
  go_end0
  exact ⟨rfl, H2.be, H2.kp, by
   rw [HY.out]
   exact H2.ownK⟩
theorem qo5 (y:Sy) (p:Nat) (k q v0:Int) (w:World) (B:Nat) (c:Nat->Nat) (vp vs vw vh:Value) (up us uw uh:Nat->Value) (o:OwnS z w B c y vp vs vw vh up us uw uh) (hB:B<=w.heap.size) (hO:y.Ok) (hp:p<y.pn) (hk2:k=2->0<=q/\q<y.pn) (hk3:k=3->0<=q/\q<y.pn/\0<y.wL (q.toNat*y.pn+p)):
  Calls prog 39 #[.agg #[vp,vs,vw,vh],iV p,evV k q v0] w fun e w'=>e=.returned (.tuple #[])/\Below B w w'/\(∀ b,b<w.heap.size->c b=0->w'.heap[b]? = w.heap[b]?)/\qam z w' B ((y.evt p k q v0).way p k q v0) (.agg #[vp,vs,vw,vh]):=
 (qo6 y p k q v0 w B c vp vs vw vh up us uw uh o hB hO hp hk2 hk3).mono fun _ _ h=>⟨h.1,h.2.1,h.2.2.1,h.2.2.2.own⟩
variable {z:Bool}
theorem qqd {y:Sy} {p:Nat} {f:Int} (h:cmS y p f=0) (hk:y.nk p=3):tkS y p (y.eq p f)=0:=by
 unfold cmS at h;rw [Sy.eq,nC hk];by_cases h1:(y.sS p).c≠0
 ·rw [nC h1] at h
  cases h
 ·rw [nB h1] at h
  by_cases h2:fuS y p (y.nk p) (y.nq p)=true
  ·rw [nC h2] at h
   cases h
  ·rw [nB h2,nC hk] at h
   exact h
theorem qv2 {y:Sy} {p:Nat} {g:Int} (h:tkS y p g=0):0<=g/\g<y.pn/\0<y.wL (g.toNat*y.pn+p):=by
 unfold tkS at h;by_cases h1:belB g y.pn=true
 ·rw [nC h1] at h
  simp only [belB,nI] at h1;refine ⟨h1.1,h1.2,?_⟩
  rcases Nat.eq_zero_or_pos (y.wL (g.toNat*y.pn+p)) with e | e
  ·rw [nC e] at h
   cases h
  ·exact e
 ·rw [nB h1] at h
  cases h
theorem qsy {x:SysIn} {p:Nat} {f:Int} (h:cmS x.y p f=0):cmV x p f=evV (x.y.nk p) (x.y.eq p f) (x.y.ev p f):=by
 have hc:cmC x p f=0:=h;unfold cmV;rw [nC hc];by_cases hk:x.nk p=3
 ·have ht:tkS x.y p (x.y.eq p f)=0:=qqd h hk
  have e:x.y.eq p f=if x.nq p=9 then f else x.nq p:=nC hk
  have e2:x.y.ev p f=(x.y.wH ((x.y.eq p f).toNat*x.y.pn+p) 0).v:=nC hk;have e3:x.y.nk p=3:=hk;rw [nC hk,<- e,e2,e3,tkV];have ht':tkC x p (x.y.eq p f)=0:=ht;rw [nC ht'];rfl
 ·have e:x.y.eq p f=x.nq p:=nB hk
  have e2:x.y.ev p f=x.nv p:=nB hk;rw [nB hk,e,e2];rfl
theorem qk5 (x:SysIn) (p f:Int) (w:World) (hG:SysG w x) (hL:x.Len) (hN:x.Nn z) (hV:w.cell? (aQ 0 0)=some vT):
  Calls prog 15 #[x.v,iV p,iV f] w fun e w'=>∃ v,e=.returned (.tuple #[v,iV (stC x.y p f)])/\qam z w' w.heap.size (stY x.y p f) v/\Bw w w':=by
 have HG:Hid (SysG w x):=hG;have HL:Hid x.Len:=hL;have HS:Hid (∀ wx,Bw w wx->Calls prog 10 #[x.v] wx (rB wx (.bool x.y.okB))):=fun wx hb=>qbq x wx (HG.bw hb) hL ((hb.cell (p:=⟨0,0,none⟩) (zJ w _ hV)).trans hV);have HC4:Hid (∀ wx,Bw w wx->Calls prog 37 #[x.v] wx fun e w'=>∃ v,e=.returned v/\qam z w' wx.heap.size x.y v/\Bw wx w'):=fun wx hb=>qmi x wx (HG.bw hb) hL hN;have BW:Hid (Bw w ((w.alloc (x.oX)).alloc (zQ3))):=(zQ _ _).trans ((zQ _ _).mono (by simp));have NB:Hid (x.bX ((w.alloc (x.oX)).alloc (zQ3)) w.heap.size):=(BoxC.new w _ _ _ _ _).bw (zQ _ _);have RB:Hid (BoxC ((w.alloc (x.oX)).alloc (zQ3)) (w.heap.size+1) nS nS nS nS/\∀ j,((w.alloc (x.oX)).alloc (zQ3)).frozen? ⟨w.heap.size+1,j,none⟩=false):=⟨⟨zW _ _ _ 0 (by simp),zW _ _ _ 1 (by simp),zW _ _ _ 2 (by simp),zW _ _ _ 3 (by simp)⟩,fun j=>yD _ _ _ _ (by simp)⟩
 have hM:w.heap.size<=w.heap.size+1:=nK _;clear hG hL hN hV
 go_enter func15,ntmps15
 go_wp2_with fail
 generalize (w.alloc (x.oX)).alloc (zQ3)=W2 at *;refine (HS.out W2 BW.out).mono ?_;rintro e w1 ⟨rfl,q1⟩;have B1:Hid (Bw w w1/\x.bX w1 w.heap.size/\BoxC w1 (w.heap.size+1) nS nS nS nS/\∀ j,w1.frozen? ⟨w.heap.size+1,j,none⟩=false):=⟨BW.trans (q1.mono BW.size),NB.bw q1,RB.1.bw q1,fun j=>((qae q1).2 _ j (zJ _ _ RB.1.1)).trans (RB.2 j)⟩
 clear q1 BW NB RB HS;have l1:w.heap.size+1<w1.heap.size:=zJ _ _ B1.2.2.1.1;obtain ⟨b0,b1,b2,b3⟩:=B1.2.1
 rcases zK x.y.okB with t | t
 case inr=>
  have HV:Hid (stC x.y p f=1/\stY x.y p f={ x.y with pn:=0,sn:=0,wn:=0,hn:=0 }):=⟨nB (by rw [t];simp),nB (by rw [t];simp)⟩
  obtain ⟨⟨r0,r1,r2,r3⟩,rf⟩:=B1.2.2;rw [t];clear t;go_wp2;exact bodyPost_ret (v:=.tuple #[sysV none 0 0 none 0 0 none 0 0 none 0 0,iV 1]) (by simp [results,results15,go_sem,r0,r1,r2,r3]) rfl ⟨_,by rw [HV.1],by rw [HV.2];exact qam.zero _ _ _,(((B1.1.setCell hM _).setCell hM _).setCell hM _).setCell hM _⟩
 have HO:Hid x.y.Ok:=Sy.ok_of t
 obtain ⟨k,q,v0,HCM⟩:∃ k q v0:Int,Hid ((∀ wx,Bw w wx->Calls prog 38 #[x.v,iV p,iV f] wx (rB wx (.tuple #[evV k q v0,iV (stC x.y p f)])))/\(stC x.y p f≠0->stY x.y p f=x.y)/\(stC x.y p f=0->∃ a:Nat,p=a/\a<x.y.pn/\stY x.y p f=(x.y.evt a k q v0).way a k q v0/\(k=2->0<=q/\q<x.y.pn)/\(k=3->0<=q/\q<x.y.pn/\0<x.y.wL (q.toNat*x.y.pn+a)))):=by
  by_cases hb:belB p x.y.pn=true
  ·have hb':0<=p/\p<(x.y.pn:Int):=by simpa [belB] using hb
   obtain ⟨a,rfl⟩:∃ a:Nat,p=a:=⟨p.toNat,by omega⟩
   have ha:a<x.y.pn:=by omega
   obtain ⟨⟨h1,h4⟩,hs,hh,hw⟩:=HO.cn;have hC:stC x.y (a:Int) f=cmS x.y a f:=by rw [stC,nC t,nC hb,nF]
   have hY:stY x.y (a:Int) f=x.y.step a f:=by rw [stY,nC t,nC hb,nF]
   have hcall:∀ wx,Bw w wx->Calls prog 38 #[x.v,iV a,iV f] wx (rB wx (.tuple #[cmV x a f,iV (cmC x a f)])):=fun wx hbx=>qkr x a f wx (HG.bw hbx) HL.out ha h4 hs hh hw (HO.four ha) (HO.peer ha);by_cases h0:cmS x.y a f=0
   ·refine ⟨x.y.nk a,x.y.eq a f,x.y.ev a f,fun wx hbx=>?_,fun hne=>absurd (hC.trans h0) hne,fun _=>⟨a,rfl,ha,?_,fun hk=>?_,fun hk=>?_⟩⟩
    ·rw [hC,<- qsy h0]
     exact hcall wx hbx
    ·rw [hY,Sy.step,nC h0,Sy.way_evt]
    ·have:=HO.peer ha hk
     rw [Sy.eq,nB (by rw [hk];decide)];exact this
    ·exact qv2 (qqd h0 hk)
   ·refine ⟨0,0,0,fun wx hbx=>?_,fun _=>hY.trans (Sy.step_no h0),fun h=>absurd (hC.symm.trans h) h0⟩
    have e:cmV x a f=evV 0 0 0:=nB h0;rw [hC,<- e];exact hcall wx hbx
  ·have hC:stC x.y p f=2:=by rw [stC,nC t,nB hb]
   refine ⟨0,0,0,fun wx _=>?_,fun _=>?_,fun h=>?_⟩
   ·rw [hC]
    exact qks x p f wx (by
     cases h:belB p x.pn with
     | false=>rfl
     | true=>exact absurd h hb)
   ·rw [stY,nC t,nB hb]
   ·rw [hC] at h
    cases h
 generalize hC:stC x.y p f=C at *;generalize hY:stY x.y p f=Y at *;have HCY:Hid (stC x.y p f=C/\stY x.y p f=Y):=⟨hC,hY⟩
 clear hC hY;rw [t];clear t HL HG;go_wp2_with fail
 refine (HC4.out w1 B1.1).mono ?_;rintro e w3 ⟨v3,rfl,o3,q3⟩;obtain ⟨c,vp,vs,vw,vh,up,us,uw,uh,rfl,o3⟩:=o3;obtain ⟨pa,pc,rfl⟩:=zU o3.p.row;obtain ⟨sa,sc,rfl⟩:=zU o3.s.row;obtain ⟨wa,wc,rfl⟩:=zU o3.t.row;obtain ⟨ha,hc,rfl⟩:=zU o3.h.row;have ba:=zQ w3 (oQ4 pa x.y.pn pc sa x.y.sn sc wa x.y.wn wc ha x.y.hn hc);have Q4:=q3.trans (ba.mono q3.size);have B4:Hid (Bw w1 (w3.alloc (oQ4 pa x.y.pn pc sa x.y.sn sc wa x.y.wn wc ha x.y.hn hc))/\BoxC (w3.alloc (oQ4 pa x.y.pn pc sa x.y.sn sc wa x.y.wn wc ha x.y.hn hc)) w3.heap.size (.slice pa x.y.pn pc) (.slice sa x.y.sn sc) (.slice wa x.y.wn wc) (.slice ha x.y.hn hc)/\OwnS z (w3.alloc (oQ4 pa x.y.pn pc sa x.y.sn sc wa x.y.wn wc ha x.y.hn hc)) w1.heap.size (rcol c w3.heap.size 0) x.y (.slice pa x.y.pn pc) (.slice sa x.y.sn sc) (.slice wa x.y.wn wc) (.slice ha x.y.hn hc) up us uw uh/\w1.heap.size<=w3.heap.size):=⟨Q4,BoxC.new w3 _ _ _ _ _,(o3.recol 0).bw ba,q3.size⟩
 go_upto_region 4 with fail
 clear o3 q3 ba b0 b1 b2 b3;generalize hA:w3.heap.size=A at *;clear hA;generalize w3.alloc (oQ4 pa x.y.pn pc sa x.y.sn sc wa x.y.wn wc ha x.y.hn hc)=W4 at *;have BW4:Hid (Bw w W4):=B1.1.trans (B4.1.mono B1.1.size);obtain ⟨b0,b1,b2,b3⟩:=B1.2.1.bw B4.1;go_wp2_with fail
 refine (HCM.1 W4 BW4.out).mono ?_;rintro e w5 ⟨rfl,q5⟩;have bb:=zQ w5 (oQ0 k q v0);have Q6:=q5.trans (bb.mono q5.size);have lA:A<W4.heap.size:=zJ _ _ B4.2.1.1;have B6:Hid (Bw w1 (w5.alloc (oQ0 k q v0))/\BoxC (w5.alloc (oQ0 k q v0)) A (.slice pa x.y.pn pc) (.slice sa x.y.sn sc) (.slice wa x.y.wn wc) (.slice ha x.y.hn hc)/\OwnS z (w5.alloc (oQ0 k q v0)) w1.heap.size (rcol c A 0) x.y (.slice pa x.y.pn pc) (.slice sa x.y.sn sc) (.slice wa x.y.wn wc) (.slice ha x.y.hn hc) up us uw uh/\w1.heap.size<=A/\A<(w5.alloc (oQ0 k q v0)).heap.size/\EvK (w5.alloc (oQ0 k q v0)) w5.heap.size k q v0):=⟨B4.1.trans (Q6.mono B4.1.size),B4.2.1.bw Q6,B4.2.2.1.bw Q6,B4.2.2.2,zL lA Q6.size,EvK.new w5 _ _ _ _⟩
 go_upto_region 5 with fail
 clear q5 bb Q6 lA B4 BW4 b0 b1 b2 b3;generalize hE:w5.heap.size=E at *;clear hE;generalize w5.alloc (oQ0 k q v0)=W6 at *;by_cases hc0:C=0
 ·obtain ⟨a,ea,ha',hY,hk2,hk3⟩:=HCM.2.2 hc0
  subst ea;subst hc0
  have HH:Hid (Calls prog 39 #[.agg #[.slice pa x.y.pn pc,.slice sa x.y.sn sc,.slice wa x.y.wn wc,.slice ha x.y.hn hc],iV a,evV k q v0] W6 fun e w'=>e=.returned (.tuple #[])/\Below w1.heap.size W6 w'/\(∀ b,b<W6.heap.size->rcol c A 0 b=0->w'.heap[b]? = W6.heap[b]?)/\qam z w' w1.heap.size Y (.agg #[.slice pa x.y.pn pc,.slice sa x.y.sn sc,.slice wa x.y.wn wc,.slice ha x.y.hn hc])):=by
   have h:=qo5 x.y a k q v0 W6 w1.heap.size _ _ _ _ _ up us uw uh B6.2.2.1 B6.1.size HO.out ha' hk2 hk3;rw [<- hY] at h;exact h
  obtain ⟨a0,a1,a2,a3⟩:=B6.2.1;obtain ⟨e0,e1,e2,-⟩:=B6.2.2.2.2.2;clear hY hk2 hk3 HCM;go_wp2_with fail
  refine HH.mono ?_;rintro e w7 ⟨rfl,q7,kp,o7⟩;have hAb:=kp A B6.2.2.2.2.1 (qai (nA _));have B7:Hid (Bw w1 w7/\qam z w7 w1.heap.size Y (.agg #[.slice pa x.y.pn pc,.slice sa x.y.sn sc,.slice wa x.y.wn wc,.slice ha x.y.hn hc])):=⟨B6.1.trans q7,o7⟩
  have c0:=(zH hAb).trans a0;have c1:=(zH hAb).trans a1;have c2:=(zH hAb).trans a2;have c3:=(zH hAb).trans a3;obtain ⟨r0,r1,r2,r3⟩:=B1.2.2.1.bw B7.1;have rf:∀ j,w7.frozen? ⟨w.heap.size+1,j,none⟩=false:=fun j=>((qae B7.1).2 _ j l1).trans (B1.2.2.2 j);clear a0 a1 a2 a3 e0 e1 e2 hAb kp o7 q7 HH;go_wp2
  exact bodyPost_ret (v := .tuple #[.agg #[.slice pa x.y.pn pc, .slice sa x.y.sn sc, .slice wa x.y.wn wc, .slice ha x.y.hn hc], iV 0]) (by simp [results, results15, go_sem, r0, r1, r2, r3]) rfl ⟨_, by rw [HCY.1], by
   rw [HCY.2]
   exact ((((B7.2.setBelow l1 0 _).setBelow l1 1 _).setBelow l1 2 _).setBelow l1 3 _).base B1.1.size,((((B1.1.trans (B7.1.mono B1.1.size)).setCell hM _).setCell hM _).setCell hM _).setCell hM _⟩
 ·have tc:(C == 0)=false:=by simpa using hc0
  have hY:=HCM.2.1 hc0
  have B7 : Hid (Below w1.heap.size w1 W6 ∧ qam z W6 w1.heap.size Y (.agg #[.slice pa x.y.pn pc, .slice sa x.y.sn sc, .slice wa x.y.wn wc, .slice ha x.y.hn hc])) := ⟨B6.1, by
   rw [hY]
   exact ⟨_,_,_,_,_,up,us,uw,uh,rfl,B6.2.2.1⟩⟩
  obtain ⟨c0,c1,c2,c3⟩:=B6.2.1;obtain ⟨r0,r1,r2,r3⟩:=B1.2.2.1.bw B7.1;have rf:∀ j,W6.frozen? ⟨w.heap.size+1,j,none⟩=false:=fun j=>((qae B7.1).2 _ j l1).trans (B1.2.2.2 j);clear hY HCM hc0;go_wp2
  exact bodyPost_ret (v := .tuple #[.agg #[.slice pa x.y.pn pc, .slice sa x.y.sn sc, .slice wa x.y.wn wc, .slice ha x.y.hn hc], iV C]) (by simp [results, results15, go_sem, r0, r1, r2, r3]) rfl ⟨_, by rw [HCY.1], by
   rw [HCY.2]
   exact ((((B7.2.setBelow l1 0 _).setBelow l1 1 _).setBelow l1 2 _).setBelow l1 3 _).base B1.1.size,((((B1.1.trans (B7.1.mono B1.1.size)).setCell hM _).setCell hM _).setCell hM _).setCell hM _⟩
