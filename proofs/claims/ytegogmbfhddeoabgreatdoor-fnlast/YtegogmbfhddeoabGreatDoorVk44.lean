/- Proved: whatever bytes are drawn by, a drawn system that is taken back to the last moment at which something was so of a process has it so there, and behind it it never was so; nothing is written into what came in. One condition, tied to the program's text: errors.errorType holds what its text lays. -/
import Derived.Test.YtegogmbfhddeoabGreatDoorVk38
import Derived.Test.YtegogmbfhddeoabGreatDoorVk43
import Derived.Test.YtegogmbfhddeoabGreatDoorCards
import Derived.SevenTiedAt
namespace Go.Proofs.YtegogmbfhddeoabGreatDoor
set_option maxRecDepth 100000
set_option maxHeartbeats 8000000
open Go.RowKit Go.Deep
theorem qhd {w wr w':World} {W0 c len cap:Nat} {a0:Option Addr} (hc:Cur wr W0 c a0 len cap) (g:w.grownBy wr (some c)) (hl:c<w.heap.size) (hb:Below w.heap.size wr w'):Cur w' W0 c a0 len cap/\w.grownBy w' (some c):=by
 have hblk:w'.heap[c]? = wr.heap[c]?:=hb.block c hl;refine ⟨⟨hc.ex.imp fun i=>fun ⟨z,e⟩=>⟨z,(zH hblk).trans e.1,(zH hblk).trans e.2.1,(zH hblk).trans e.2.2⟩,fun o=>(zI hblk).trans (hc.fr o),by have:=hb.size;have:=hc.lt;omega,hc.ge,hc.by'.kept fun k hk=>hb.block k (by have:=hc.ge;omega),hc.ln⟩,⟨hb.os.trans g.os,hb.tape.trans g.tape,hb.output.trans g.output,zP g.size hb.size,fun k hk hne=>(hb.block k hk).trans (g.block k hk hne)⟩⟩
structure St3 (w:World) (N:Nat) (p k v:Int):Prop where
 c0:w.cell? ⟨N,0,none⟩=some (.int .i64 p)
 c1:w.cell? ⟨N,1,none⟩=some (.int .i64 k)
 c2:w.cell? ⟨N,2,none⟩=some (.int .i64 v)
 fr:∀ j,w.frozen? ⟨N,j,none⟩=false
theorem St3.blk {w w':World} {N:Nat} {p k v:Int} (h:St3 w N p k v) (hN:w'.heap[N]? = w.heap[N]?):St3 w' N p k v:=
 ⟨(zH hN).trans h.c0,(zH hN).trans h.c1,(zH hN).trans h.c2,fun j=>(zI hN).trans (h.fr j)⟩
theorem St3.lt {w:World} {N:Nat} {p k v:Int} (h:St3 w N p k v):N<w.heap.size:=zJ w _ h.c0
theorem St3.new (w:World) (p k v:Int) (t:TypeId):St3 (w.alloc (.cells #[.int .i64 p,.int .i64 k,.int .i64 v] t)) w.heap.size p k v:=
 ⟨zW _ _ _ 0 (by simp),zW _ _ _ 1 (by simp),zW _ _ _ 2 (by simp),fun j=>yB _ _ _ _ (by simp)⟩
structure SD (w wr:World) (W0 c:Nat) (a0:Option Addr) (len cap:Nat) (x:SysIn):Prop where
 cu:Cur wr W0 c a0 len cap
 gr:w.grownBy wr (some c)
 bx:BoxC wr w.heap.size (.slice x.pa x.pn x.pc) (.slice x.sa x.sn x.sc) (.slice x.wa x.wn x.wc) (.slice x.ha x.hn x.hc)
 bo:St3 wr (w.heap.size+1) 0 0 0
 lt:c<w.heap.size
section
variable {w wr w':World} {W0 c len cap:Nat} {a0:Option Addr} {x:SysIn}
theorem SD.draw (h:SD w wr W0 c a0 len cap x) (hc:Cur w' W0 c a0 len cap) (hg:wr.grownBy w' (some c)):SD w w' W0 c a0 len cap x:=by
 have hl:=h.lt;have b1:=hg.block w.heap.size (zJ _ _ h.bx.1) (fun e=>by injection e;omega);exact ⟨hc,h.gr.trans hg,⟨(zH b1).trans h.bx.1,(zH b1).trans h.bx.2.1,(zH b1).trans h.bx.2.2.1,(zH b1).trans h.bx.2.2.2⟩,h.bo.blk (hg.block _ h.bo.lt (fun e=>by injection e;omega)),hl⟩
end
def qwb (w:World) (W0 c:Nat) (a0:Option Addr) (len cap:Nat) (e:Ending) (w':World):Prop:=∃ p k v,e=.returned (spV p k v)/\Cur w' W0 c a0 len cap/\w.grownBy w' (some c)
theorem qhg (W0 c len cap:Nat) (a0:Option Addr) (x:SysIn) (w:World) (hc:Cur w W0 c a0 len cap) (hm:x.pn<=16):
  Calls Tryz.prog 29 #[.pointer (some ⟨c,0,none⟩),x.v] w (qwb w W0 c a0 len cap):=by
 have D2:Hid (SD w ((w.alloc (oQ4 x.pa x.pn x.pc x.sa x.sn x.sc x.wa x.wn x.wc x.ha x.hn x.hc)).alloc (zQ6)) W0 c a0 len cap x):=by
  have hcl:=hc.lt;have b2:=zQ (w.alloc (oQ4 x.pa x.pn x.pc x.sa x.sn x.sc x.wa x.wn x.wc x.ha x.hn x.hc)) (zQ6);have h3:=St3.new (w.alloc (oQ4 x.pa x.pn x.pc x.sa x.sn x.sc x.wa x.wn x.wc x.ha x.hn x.hc)) 0 0 0 31;rw [World.size_alloc] at h3;exact ⟨(hc.alloc _).alloc _,(World.grownBy_alloc _ _ _).trans (World.grownBy_alloc _ _ _),(BoxC.new w _ _ _ _ _).below b2,h3,hcl⟩
 have hm':(x.pn:Int)<=16:=by omega
 clear hc hm
 go_enter Tryz.func29,Tryz.ntmps29
 obtain ⟨z0,z1,z2,z3⟩:=D2.out.bx;go_wp2_with fail
 generalize (w.alloc (oQ4 x.pa x.pn x.pc x.sa x.sn x.sc x.wa x.wn x.wc x.ha x.hn x.hc)).alloc (zQ6)=W2 at *;clear z0 z1 z2 z3;refine (qhh (x.pn:Int) 1 W2).mono ?_;rintro e w' ⟨m,rfl,⟨m1,m2,m3⟩,rfl⟩;go_wp2_with fail
 refine (zY W0 c len cap a0 m _ D2.out.cu (by omega) (by omega)).mono ?_;rintro e w3 ⟨p,rfl,⟨p0,p1⟩,hc3,hg3⟩;have D3:Hid (SD w w3 W0 c a0 len cap x):=D2.out.draw hc3 hg3;clear hc3 hg3 D2;go_wp2_with fail
 refine (zY W0 c len cap a0 3 _ D3.out.cu (by omega) (by omega)).mono ?_;rintro e w4 ⟨k,rfl,⟨k0,k1⟩,hc4,hg4⟩;have D4:Hid (SD w w4 W0 c a0 len cap x):=D3.out.draw hc4 hg4;clear hc4 hg4 D3;go_wp2_with fail
 refine (zY W0 c len cap a0 7 _ D4.out.cu (by omega) (by omega)).mono ?_;rintro e w5 ⟨v,rfl,⟨v0,v1⟩,hc5,hg5⟩;have D5:Hid (SD w w5 W0 c a0 len cap x):=D4.out.draw hc5 hg5;clear hc5 hg5 D4;have hwk:IntKind.i64.wrap (1+k)=1+k:=by rw [IntKind.wrap_i64];omega
 have D6:Hid (SD w (w5.alloc (oQ5 p (1+k) v)) W0 c a0 len cap x/\St3 (w5.alloc (oQ5 p (1+k) v)) w5.heap.size p (1+k) v/\w.heap.size+1<w5.heap.size):=⟨D5.out.draw (D5.out.cu.alloc _) (World.grownBy_alloc _ _ _),St3.new _ _ _ _ _,D5.out.bo.lt⟩
 go_upto_region 2 with fail
 clear D5 hwk;generalize w5.alloc (oQ5 p (1+k) v)=w6 at *;generalize w5.heap.size=K at *;generalize 1+k=k2 at *;clear p0 p1 k0 k1 v0 v1 m1 m2 m3 w5;go_wp2_with fail
 refine (zY W0 c len cap a0 20 w6 D6.1.cu (by omega) (by omega)).mono ?_;rintro e w7 ⟨r,rfl,-,hc7,hg7⟩;have D7:Hid (SD w w7 W0 c a0 len cap x/\St3 w7 K p k2 v/\w.heap.size+1<K):=⟨D6.1.draw hc7 hg7,D6.2.1.blk (hg7.block _ D6.2.1.lt (fun e=>by have:=D6.1.lt;have:=D6.2.2;injection e;omega)),D6.2.2⟩
 clear hc7 hg7 D6;by_cases e0:r=0
 ·subst e0
  go_wp2_with fail
  refine (qgo W0 c len cap w7.heap.size 2 2 a0 pickP _ (D7.1.cu.alloc _) (by omega) (by omega) (by simp) (by have:=D7.1.lt;have:=D7.2.1.lt;have:=D7.2.2;omega) (qtg w7)).mono ?_;rintro e w8 ⟨i,hi,rfl,hc8,hg8⟩;have hl8:K<(w7.alloc (.cells #[.int .i64 (-1),.int .i64 4] 3)).heap.size:=by have:=D7.2.1.lt;simp;omega
  have D8:Hid (SD w w8 W0 c a0 len cap x/\St3 w8 K p k2 v/\w.heap.size+1<K):=⟨(D7.1.draw (D7.1.cu.alloc _) (World.grownBy_alloc _ _ _)).draw hc8 hg8,(D7.2.1.blk ((zQ w7 (.cells #[.int .i64 (-1),.int .i64 4] 3)).block K D7.2.1.lt)).blk (hg8.block _ hl8 (fun e=>by have:=D7.1.lt;have:=D7.2.2;injection e;omega)),D7.2.2⟩
  clear hc8 hg8 D7 hl8;generalize pickP i=pv at *;obtain ⟨y0,y1,y2,yf⟩:=D8.2.1;obtain ⟨o0,o1,o2,of⟩:=D8.1.bo;have yf0:=yf 0;have yf1:=yf 1;have of0:=of 0;have of1:=of 1;have of2:=of 2;have hne:K≠w.heap.size+1:=by have:=D8.2.2;omega
  have hne2:w.heap.size+1≠K:=by have:=D8.2.2;omega
  have hK:w.heap.size<=K:=by have:=D8.2.2;omega
  have hR:w.heap.size<=w.heap.size+1:=Nat.le_succ _;have HE:Hid (Cur ((((w8.setCell ⟨K,0,none⟩ (.int .i64 pv)).setCell ⟨w.heap.size+1,0,none⟩ (.int .i64 pv)).setCell ⟨w.heap.size+1,1,none⟩ (.int .i64 k2)).setCell ⟨w.heap.size+1,2,none⟩ (.int .i64 v)) W0 c a0 len cap/\w.grownBy ((((w8.setCell ⟨K,0,none⟩ (.int .i64 pv)).setCell ⟨w.heap.size+1,0,none⟩ (.int .i64 pv)).setCell ⟨w.heap.size+1,1,none⟩ (.int .i64 k2)).setCell ⟨w.heap.size+1,2,none⟩ (.int .i64 v)) (some c)):=qhd D8.1.cu D8.1.gr D8.1.lt (((((Below.refl w.heap.size w8).setCell hK _).setCell hR _).setCell hR _).setCell hR _);clear D8;go_wp2;exact bodyPost_ret (v:=spV pv k2 v) (by simp [results,Tryz.results29,go_sem,o0,o1,o2]) rfl ⟨_,_,_,rfl,HE.out⟩
 by_cases e1:r=1
 ·subst e1
  go_wp2_with fail
  refine (zY W0 c len cap a0 5 w7 D7.1.cu (by omega) (by omega)).mono ?_;rintro e w8 ⟨kv,rfl,-,hc8,hg8⟩;have D8:Hid (SD w w8 W0 c a0 len cap x/\St3 w8 K p k2 v/\w.heap.size+1<K):=⟨D7.1.draw hc8 hg8,D7.2.1.blk (hg8.block _ D7.2.1.lt (fun e=>by have:=D7.1.lt;have:=D7.2.2;injection e;omega)),D7.2.2⟩
  clear hc8 hg8 D7;obtain ⟨y0,y1,y2,yf⟩:=D8.2.1;obtain ⟨o0,o1,o2,of⟩:=D8.1.bo;have yf0:=yf 0;have yf1:=yf 1;have of0:=of 0;have of1:=of 1;have of2:=of 2;have hne:K≠w.heap.size+1:=by have:=D8.2.2;omega
  have hne2:w.heap.size+1≠K:=by have:=D8.2.2;omega
  have hK:w.heap.size<=K:=by have:=D8.2.2;omega
  have hR:w.heap.size<=w.heap.size+1:=Nat.le_succ _;have HE:Hid (Cur ((((w8.setCell ⟨K,1,none⟩ (.int .i64 kv)).setCell ⟨w.heap.size+1,0,none⟩ (.int .i64 p)).setCell ⟨w.heap.size+1,1,none⟩ (.int .i64 kv)).setCell ⟨w.heap.size+1,2,none⟩ (.int .i64 v)) W0 c a0 len cap/\w.grownBy ((((w8.setCell ⟨K,1,none⟩ (.int .i64 kv)).setCell ⟨w.heap.size+1,0,none⟩ (.int .i64 p)).setCell ⟨w.heap.size+1,1,none⟩ (.int .i64 kv)).setCell ⟨w.heap.size+1,2,none⟩ (.int .i64 v)) (some c)):=qhd D8.1.cu D8.1.gr D8.1.lt (((((Below.refl w.heap.size w8).setCell hK _).setCell hR _).setCell hR _).setCell hR _);clear D8;go_wp2;exact bodyPost_ret (v:=spV p kv v) (by simp [results,Tryz.results29,go_sem,o0,o1,o2]) rfl ⟨_,_,_,rfl,HE.out⟩
 have e0':(r == 0)=false:=by simpa using e0
 have e1':(r == 1)=false:=by simpa using e1
 obtain ⟨y0,y1,y2,yf⟩:=D7.2.1;obtain ⟨o0,o1,o2,of⟩:=D7.1.bo;have yf0:=yf 0;have yf1:=yf 1;have of0:=of 0;have of1:=of 1;have of2:=of 2;have hne:K≠w.heap.size+1:=by have:=D7.2.2;omega
 have hne2:w.heap.size+1≠K:=by have:=D7.2.2;omega
 have hK:w.heap.size<=K:=by have:=D7.2.2;omega
 have hR:w.heap.size<=w.heap.size+1:=Nat.le_succ _;have HE:Hid (Cur (((w7.setCell ⟨w.heap.size+1,0,none⟩ (.int .i64 p)).setCell ⟨w.heap.size+1,1,none⟩ (.int .i64 k2)).setCell ⟨w.heap.size+1,2,none⟩ (.int .i64 v)) W0 c a0 len cap/\w.grownBy (((w7.setCell ⟨w.heap.size+1,0,none⟩ (.int .i64 p)).setCell ⟨w.heap.size+1,1,none⟩ (.int .i64 k2)).setCell ⟨w.heap.size+1,2,none⟩ (.int .i64 v)) (some c)):=qhd D7.1.cu D7.1.gr D7.1.lt ((((Below.refl w.heap.size w7).setCell hR _).setCell hR _).setCell hR _);clear D7;go_wp2;exact bodyPost_ret (v:=spV p k2 v) (by simp [results,Tryz.results29,go_sem,o0,o1,o2]) rfl ⟨_,_,_,rfl,HE.out⟩
def qvd (w:World) (e:Ending) (w':World):Prop:=∃ (x:SysIn) (B T:Nat) (p k v:Int),e=.returned (.tuple #[x.v,spV p k v])/\x.y.Sm/\SysX w' B T x/\w.heap.size+1<B/\T<=w'.heap.size/\Below w.heap.size w w'
structure LD (w wr:World) (W0 c:Nat) (a0:Option Addr) (len cap:Nat) (B T M:Nat) (x:SysIn):Prop where
 cu:Cur wr W0 c a0 len cap
 be:Below w.heap.size w wr
 sx:SysX wr B T x
 b2:Bx wr w.heap.size (.slice none 0 0) (.slice none 0 0) (.slice none 0 0) (.slice none 0 0)
 b3:St3 wr (w.heap.size+1) 0 0 0
 b6:Bx wr M (.slice x.pa x.pn x.pc) (.slice x.sa x.sn x.sc) (.slice x.wa x.wn x.wc) (.slice x.ha x.hn x.hc)
 sz:w.heap.size+1<B/\w.heap.size+1<M/\T<=M/\w.heap.size+1<c/\c<B/\c≠M/\M<wr.heap.size
theorem LD.g {w wr w':World} {W0 c len cap B T M:Nat} {a0:Option Addr} {x:SysIn} (d:LD w wr W0 c a0 len cap B T M x) (hg:wr.grownBy w' (some c)):SysG w' x:=d.sx.g w' fun b hb _ hl=>hg.block b hl (fun e=>by have:=d.sz;injection e;omega)
theorem LD.draw {w wr w':World} {W0 c len cap B T M:Nat} {a0:Option Addr} {x:SysIn} (d:LD w wr W0 c a0 len cap B T M x) (hc:Cur w' W0 c a0 len cap) (hg:wr.grownBy w' (some c)):LD w w' W0 c a0 len cap B T M x:=
 ⟨hc,Below.grown d.be hg d.be.size (fun k hk=>by cases hk;have:=d.sz;omega),d.sx.keep hg.size fun b hb _ hl=>hg.block b hl (by have:=d.sz;simp;omega),d.b2.grown hg (by have:=d.sz;simp;omega),d.b3.blk (hg.block _ d.b3.lt (by have:=d.sz;simp;omega)),d.b6.grown hg (by have:=d.sz;simp;omega),by have:=d.sz;have:=hg.size;omega⟩
theorem qm0 (W0 len cap:Nat) (a0:Option Addr) (w:World) (hB:qb3 w W0 a0 len) (hW:W0<=w.heap.size) (ln:len<=1048576):
  Calls Tryz.prog 13 #[.slice a0 len cap] w (qvd w):=by
 have C0:Hid (qb3 ((w.alloc (zQ4)).alloc (zQ6)) W0 a0 len/\W0<=((w.alloc (zQ4)).alloc (zQ6)).heap.size/\Below w.heap.size w ((w.alloc (zQ4)).alloc (zQ6))/\Bx ((w.alloc (zQ4)).alloc (zQ6)) w.heap.size (.slice none 0 0) (.slice none 0 0) (.slice none 0 0) (.slice none 0 0)/\St3 ((w.alloc (zQ4)).alloc (zQ6)) (w.heap.size+1) 0 0 0/\((w.alloc (zQ4)).alloc (zQ6)).heap.size=w.heap.size+2):=by
  have b2:=zQ (w.alloc (zQ4)) (zQ6);have b:=(zQ w (zQ4)).trans (b2.mono (by simp));have h3:=St3.new (w.alloc (zQ4)) 0 0 0 31;rw [World.size_alloc] at h3;exact ⟨hB.kept (fun k hk=>b.block k (by omega)),by simp;omega,b,(Bx.new w _ _ _ _ _).below b2,h3,by simp⟩
 clear hB
 go_enter Tryz.func13,Tryz.ntmps13
 go_wp2_with fail
 generalize (w.alloc (zQ4)).alloc (zQ6)=W2 at *;refine (qq1 W0 len cap a0 W2 C0.1 C0.2.1 ln).mono ?_;rintro e w1 ⟨rfl,hc1,hg1⟩;have b1:=qel hg1;have C1:Hid (Cur w1 W0 W2.heap.size a0 len cap/\Below w.heap.size w w1/\Bx w1 w.heap.size (.slice none 0 0) (.slice none 0 0) (.slice none 0 0) (.slice none 0 0)/\St3 w1 (w.heap.size+1) 0 0 0/\W2.heap.size=w.heap.size+2/\W2.heap.size<w1.heap.size):=⟨hc1,C0.2.2.1.trans (b1.mono C0.2.2.1.size),C0.2.2.2.1.below b1,C0.2.2.2.2.1.blk (b1.block _ C0.2.2.2.2.1.lt),C0.2.2.2.2.2,hc1.lt⟩
 clear hc1 hg1 C0 b1;generalize W2.heap.size=c at *;go_wp2_with fail
 refine (qpl W0 c len cap a0 w1 C1.1).mono ?_;rintro e w2 ⟨x,B,T,rfl,hm,hX,hc2,hg2,hcB,hT⟩
 have DA:Hid (LD w (w2.alloc (oQ4 x.pa x.pn x.pc x.sa x.sn x.sc x.wa x.wn x.wc x.ha x.hn x.hc)) W0 c a0 len cap B T w2.heap.size x):=by
  have h1:=C1.2.2.2.2.1;have h2:=C1.2.2.2.2.2;have h4:=hg2.size;refine ⟨hc2.alloc _,(Below.grown C1.2.1 hg2 C1.2.1.size (fun k hk=>by cases hk;omega)).trans ((zQ _ _).mono (by have:=C1.2.1.size;omega)),hX.keep (by simp) fun b _ _ hl=>(zQ w2 _).block b hl,(C1.2.2.1.grown hg2 (by simp;omega)).below (zQ _ _),(C1.2.2.2.1.blk (hg2.block _ C1.2.2.2.1.lt (by simp;omega))).blk ((zQ w2 _).block _ (by have:=C1.2.2.2.1.lt;omega)),Bx.new _ _ _ _ _ _,by omega,by omega,hT,by omega,by omega,by omega,by simp⟩
 have HM:Hid x.y.Sm:=hm;clear hX hc2 hg2 hcB hT C1 hm;go_upto_region 3 with fail
 generalize w2.alloc (oQ4 x.pa x.pn x.pc x.sa x.sn x.sc x.wa x.wn x.wc x.ha x.hn x.hc)=wA at *;generalize w2.heap.size=M at *;have hp16:x.pn<=16:=HM.out.n.1;have q0:Below wA.heap.size wA wA.drew:=(Below.refl wA.heap.size wA).drew;have DD:LD w wA.drew W0 c a0 len cap B T M x:=⟨DA.out.cu.drew,DA.out.be.drew,DA.out.sx.keep (Nat.le_refl _) fun b _ _ _=>rfl,DA.out.b2.below q0,DA.out.b3.blk (q0.block _ DA.out.b3.lt),DA.out.b6.below q0,DA.out.sz⟩
 refine qan (fun w'=>BoxC w' M (.slice x.pa x.pn x.pc) (.slice x.sa x.sn x.sc) (.slice x.wa x.wn x.wc) (.slice x.ha x.hn x.hc)) (fun _=>false) (by kernel_rfl) ?_;have hHeld:(fun w':World=>BoxC w' M (.slice x.pa x.pn x.pc) (.slice x.sa x.sn x.sc) (.slice x.wa x.wn x.wc) (.slice x.ha x.hn x.hc)) wA.drew:=DD.b6.1;refine qap 0 rfl hHeld ?_;refine qap 1 rfl hHeld ?_;refine qap 2 rfl hHeld ?_;refine qaa 3 rfl (by kernel_rfl) (fun K hK=>?_);refine qbs rfl 29 _ _ rfl #[.pointer (some ⟨c,0,none⟩),x.v] (by simp [Act.eval]) (yA Tryz.func29 (by kernel_rfl) rfl) (qhg W0 c len cap a0 x wA.drew DD.cu hp16) ?_;rintro e w5 ⟨p,k,v,rfl,hc5,hg5⟩;have D5:Hid (LD w w5 W0 c a0 len cap B T M x):=DD.draw hc5 hg5;refine ⟨_,rfl,?_⟩;refine hK.out _ _ (fun _=>D5.out.b6.1) ?_;clear hK K hc5 hg5 hHeld DD q0 DA
 (try simp only [Act.put,zD,zE,zF])
 obtain ⟨⟨x0,x1,x2,x3⟩,xf⟩:=D5.out.b2;have f0:=xf 0;have f1:=xf 1;have f2:=xf 2;have f3:=xf 3;have hz:=D5.out.sz;have HBa:∀ u,M≠w.heap.size:=fun _=>by omega
 refine qaa 4 rfl (by kernel_rfl) (fun K hK=>?_);go_simp;have hb7:Below w.heap.size w5 ((((w5.setCell ⟨w.heap.size,0,none⟩ (.slice x.pa x.pn x.pc)).setCell ⟨w.heap.size,1,none⟩ (.slice x.sa x.sn x.sc)).setCell ⟨w.heap.size,2,none⟩ (.slice x.wa x.wn x.wc)).setCell ⟨w.heap.size,3,none⟩ (.slice x.ha x.hn x.hc)):=((((Below.refl w.heap.size w5).setCell (Nat.le_refl _) _).setCell (Nat.le_refl _) _).setCell (Nat.le_refl _) _).setCell (Nat.le_refl _) _
 have hk7:∀ b,b≠w.heap.size->((((w5.setCell ⟨w.heap.size,0,none⟩ (.slice x.pa x.pn x.pc)).setCell ⟨w.heap.size,1,none⟩ (.slice x.sa x.sn x.sc)).setCell ⟨w.heap.size,2,none⟩ (.slice x.wa x.wn x.wc)).setCell ⟨w.heap.size,3,none⟩ (.slice x.ha x.hn x.hc)).heap[b]? = w5.heap[b]?:=fun b hb=>by
  rw [zO _ _ _ _ hb,zO _ _ _ _ hb,zO _ _ _ _ hb,zO _ _ _ _ hb]
 have F7:Hid (Below w.heap.size w ((((w5.setCell ⟨w.heap.size,0,none⟩ (.slice x.pa x.pn x.pc)).setCell ⟨w.heap.size,1,none⟩ (.slice x.sa x.sn x.sc)).setCell ⟨w.heap.size,2,none⟩ (.slice x.wa x.wn x.wc)).setCell ⟨w.heap.size,3,none⟩ (.slice x.ha x.hn x.hc))/\SysX ((((w5.setCell ⟨w.heap.size,0,none⟩ (.slice x.pa x.pn x.pc)).setCell ⟨w.heap.size,1,none⟩ (.slice x.sa x.sn x.sc)).setCell ⟨w.heap.size,2,none⟩ (.slice x.wa x.wn x.wc)).setCell ⟨w.heap.size,3,none⟩ (.slice x.ha x.hn x.hc)) B T x/\BoxC ((((w5.setCell ⟨w.heap.size,0,none⟩ (.slice x.pa x.pn x.pc)).setCell ⟨w.heap.size,1,none⟩ (.slice x.sa x.sn x.sc)).setCell ⟨w.heap.size,2,none⟩ (.slice x.wa x.wn x.wc)).setCell ⟨w.heap.size,3,none⟩ (.slice x.ha x.hn x.hc)) w.heap.size (.slice x.pa x.pn x.pc) (.slice x.sa x.sn x.sc) (.slice x.wa x.wn x.wc) (.slice x.ha x.hn x.hc)/\St3 ((((w5.setCell ⟨w.heap.size,0,none⟩ (.slice x.pa x.pn x.pc)).setCell ⟨w.heap.size,1,none⟩ (.slice x.sa x.sn x.sc)).setCell ⟨w.heap.size,2,none⟩ (.slice x.wa x.wn x.wc)).setCell ⟨w.heap.size,3,none⟩ (.slice x.ha x.hn x.hc)) (w.heap.size+1) 0 0 0/\BoxC ((((w5.setCell ⟨w.heap.size,0,none⟩ (.slice x.pa x.pn x.pc)).setCell ⟨w.heap.size,1,none⟩ (.slice x.sa x.sn x.sc)).setCell ⟨w.heap.size,2,none⟩ (.slice x.wa x.wn x.wc)).setCell ⟨w.heap.size,3,none⟩ (.slice x.ha x.hn x.hc)) M (.slice x.pa x.pn x.pc) (.slice x.sa x.sn x.sc) (.slice x.wa x.wn x.wc) (.slice x.ha x.hn x.hc)/\w.heap.size+1<B/\T<=w5.heap.size):=⟨D5.out.be.trans hb7,D5.out.sx.keep (by simp) fun b hb _ _=>hk7 b (by omega),BoxC.set4 ⟨x0,x1,x2,x3⟩ _ _ _ _,D5.out.b3.blk (hk7 _ (by omega)),D5.out.b6.1.blkM (hk7 _ (by omega)),hz.1,by have:=D5.out.b6.lt;omega⟩
 refine hK.out _ _ (fun _=>F7.2.2.2.2.1) ?_;clear hK K hb7 hk7 x0 x1 x2 x3 xf f0 f1 f2 f3 HBa
 (try simp only [Act.put,zD,zE,zF])
 have hsz:(((((w5.setCell ⟨w.heap.size,0,none⟩ (.slice x.pa x.pn x.pc)).setCell ⟨w.heap.size,1,none⟩ (.slice x.sa x.sn x.sc)).setCell ⟨w.heap.size,2,none⟩ (.slice x.wa x.wn x.wc)).setCell ⟨w.heap.size,3,none⟩ (.slice x.ha x.hn x.hc))).heap.size=w5.heap.size:=by simp
 have HSZ:Hid ((((((w5.setCell ⟨w.heap.size,0,none⟩ (.slice x.pa x.pn x.pc)).setCell ⟨w.heap.size,1,none⟩ (.slice x.sa x.sn x.sc)).setCell ⟨w.heap.size,2,none⟩ (.slice x.wa x.wn x.wc)).setCell ⟨w.heap.size,3,none⟩ (.slice x.ha x.hn x.hc))).heap.size=w5.heap.size):=hsz;clear hsz;generalize ((((w5.setCell ⟨w.heap.size,0,none⟩ (.slice x.pa x.pn x.pc)).setCell ⟨w.heap.size,1,none⟩ (.slice x.sa x.sn x.sc)).setCell ⟨w.heap.size,2,none⟩ (.slice x.wa x.wn x.wc)).setCell ⟨w.heap.size,3,none⟩ (.slice x.ha x.hn x.hc))=w7 at *;obtain ⟨y0,y1,y2,yf⟩:=F7.2.2.2.1;have f0:=yf 0;have f1:=yf 1;have f2:=yf 2;refine qaa 5 rfl (by kernel_rfl) (fun K hK=>?_);go_simp
 have hk8:∀ b,b≠w.heap.size+1->(((w7.setCell ⟨w.heap.size+1,0,none⟩ (.int .i64 p)).setCell ⟨w.heap.size+1,1,none⟩ (.int .i64 k)).setCell ⟨w.heap.size+1,2,none⟩ (.int .i64 v)).heap[b]? = w7.heap[b]?:=fun b hb=>by
  rw [zO _ _ _ _ hb,zO _ _ _ _ hb,zO _ _ _ _ hb]
 have hR:w.heap.size<=w.heap.size+1:=Nat.le_succ _;have F8:Hid (Below w.heap.size w (((w7.setCell ⟨w.heap.size+1,0,none⟩ (.int .i64 p)).setCell ⟨w.heap.size+1,1,none⟩ (.int .i64 k)).setCell ⟨w.heap.size+1,2,none⟩ (.int .i64 v))/\SysX (((w7.setCell ⟨w.heap.size+1,0,none⟩ (.int .i64 p)).setCell ⟨w.heap.size+1,1,none⟩ (.int .i64 k)).setCell ⟨w.heap.size+1,2,none⟩ (.int .i64 v)) B T x/\BoxC (((w7.setCell ⟨w.heap.size+1,0,none⟩ (.int .i64 p)).setCell ⟨w.heap.size+1,1,none⟩ (.int .i64 k)).setCell ⟨w.heap.size+1,2,none⟩ (.int .i64 v)) w.heap.size (.slice x.pa x.pn x.pc) (.slice x.sa x.sn x.sc) (.slice x.wa x.wn x.wc) (.slice x.ha x.hn x.hc)/\BoxC (((w7.setCell ⟨w.heap.size+1,0,none⟩ (.int .i64 p)).setCell ⟨w.heap.size+1,1,none⟩ (.int .i64 k)).setCell ⟨w.heap.size+1,2,none⟩ (.int .i64 v)) M (.slice x.pa x.pn x.pc) (.slice x.sa x.sn x.sc) (.slice x.wa x.wn x.wc) (.slice x.ha x.hn x.hc)/\w.heap.size+1<B/\T<=((((w7.setCell ⟨w.heap.size+1,0,none⟩ (.int .i64 p)).setCell ⟨w.heap.size+1,1,none⟩ (.int .i64 k)).setCell ⟨w.heap.size+1,2,none⟩ (.int .i64 v))).heap.size):=⟨((F7.1.setCell hR _).setCell hR _).setCell hR _,F7.2.1.keep (by simp) fun b hb _ _=>hk8 b (by omega),F7.2.2.1.blkM (hk8 _ (by omega)),F7.2.2.2.2.1.blkM (hk8 _ (by omega)),F7.2.2.2.2.2.1,by have:=F7.2.2.2.2.2.2;have:=HSZ.out;simp;omega⟩
 refine hK.out _ _ (fun _=>F8.2.2.2.1) ?_;clear hK K hk8
 (try simp only [Act.put,zD,zE,zF])
 refine qau (by kernel_rfl) ?_ _;obtain ⟨x0,x1,x2,x3⟩:=F8.2.2.1;go_wp2;exact bodyPost_ret (v:=.tuple #[x.v,spV p k v]) (by simp [results,Tryz.results13,go_sem,x0,x1,x2,x3,y0,y1,y2]) rfl ⟨x,B,T,p,k,v,rfl,HM.out,F8.2.1,F8.2.2.2.2.1,F8.2.2.2.2.2,F8.1⟩
theorem qj8 (W0 len cap:Nat) (a0:Option Addr) (w:World) (hB:qb3 w W0 a0 len) (hW:W0<=w.heap.size) (ln:len<=1048576):
  Calls Tryz.prog 5 #[.slice a0 len cap] w (qvd w):=by
 have C0:Hid (qb3 ((w.alloc (zQ4)).alloc (zQ6)) W0 a0 len/\W0<=((w.alloc (zQ4)).alloc (zQ6)).heap.size/\Below w.heap.size w ((w.alloc (zQ4)).alloc (zQ6))/\Bx ((w.alloc (zQ4)).alloc (zQ6)) w.heap.size (.slice none 0 0) (.slice none 0 0) (.slice none 0 0) (.slice none 0 0)/\St3 ((w.alloc (zQ4)).alloc (zQ6)) (w.heap.size+1) 0 0 0/\((w.alloc (zQ4)).alloc (zQ6)).heap.size=w.heap.size+2):=by
  have b2:=zQ (w.alloc (zQ4)) (zQ6);have b:=(zQ w (zQ4)).trans (b2.mono (by simp));have h3:=St3.new (w.alloc (zQ4)) 0 0 0 31;rw [World.size_alloc] at h3;exact ⟨hB.kept (fun k hk=>b.block k (by omega)),by simp;omega,b,(Bx.new w _ _ _ _ _).below b2,h3,by simp⟩
 clear hB
 go_enter Tryz.func5,Tryz.ntmps5
 go_wp2_with fail
 generalize (w.alloc (zQ4)).alloc (zQ6)=W2 at *;refine (qm0 W0 len cap a0 W2 C0.1 C0.2.1 ln).mono ?_;rintro e w2 ⟨x,B,T,p,k,v,rfl,hm,hX,hBl,hT,hb⟩;have HM:Hid x.y.Sm:=hm
 have F0:Hid (Below w.heap.size w w2/\SysX w2 B T x/\Bx w2 w.heap.size (.slice none 0 0) (.slice none 0 0) (.slice none 0 0) (.slice none 0 0)/\St3 w2 (w.heap.size+1) 0 0 0/\w.heap.size+1<B/\T<=w2.heap.size/\w.heap.size+1<w2.heap.size):=by
  have h9:=C0.2.2.2.2.2;have h8:=hb.size;exact ⟨C0.2.2.1.trans (hb.mono (by omega)),hX,C0.2.2.2.1.below hb,C0.2.2.2.2.1.blk (hb.block _ C0.2.2.2.2.1.lt),by omega,hT,by omega⟩
 clear hX hBl hT hb hm C0;go_upto_region 2 with fail
 have bA:=(zQ w2 (oQ4 x.pa x.pn x.pc x.sa x.sn x.sc x.wa x.wn x.wc x.ha x.hn x.hc)).trans ((zQ (w2.alloc (oQ4 x.pa x.pn x.pc x.sa x.sn x.sc x.wa x.wn x.wc x.ha x.hn x.hc)) (oQ5 p k v)).mono (by simp));have h3:=St3.new (w2.alloc (oQ4 x.pa x.pn x.pc x.sa x.sn x.sc x.wa x.wn x.wc x.ha x.hn x.hc)) p k v 31;rw [World.size_alloc] at h3;have FA:Hid (Below w.heap.size w ((w2.alloc (oQ4 x.pa x.pn x.pc x.sa x.sn x.sc x.wa x.wn x.wc x.ha x.hn x.hc)).alloc (oQ5 p k v))/\SysX ((w2.alloc (oQ4 x.pa x.pn x.pc x.sa x.sn x.sc x.wa x.wn x.wc x.ha x.hn x.hc)).alloc (oQ5 p k v)) B T x/\Bx ((w2.alloc (oQ4 x.pa x.pn x.pc x.sa x.sn x.sc x.wa x.wn x.wc x.ha x.hn x.hc)).alloc (oQ5 p k v)) w.heap.size (.slice none 0 0) (.slice none 0 0) (.slice none 0 0) (.slice none 0 0)/\St3 ((w2.alloc (oQ4 x.pa x.pn x.pc x.sa x.sn x.sc x.wa x.wn x.wc x.ha x.hn x.hc)).alloc (oQ5 p k v)) (w.heap.size+1) 0 0 0/\Bx ((w2.alloc (oQ4 x.pa x.pn x.pc x.sa x.sn x.sc x.wa x.wn x.wc x.ha x.hn x.hc)).alloc (oQ5 p k v)) w2.heap.size (.slice x.pa x.pn x.pc) (.slice x.sa x.sn x.sc) (.slice x.wa x.wn x.wc) (.slice x.ha x.hn x.hc)/\St3 ((w2.alloc (oQ4 x.pa x.pn x.pc x.sa x.sn x.sc x.wa x.wn x.wc x.ha x.hn x.hc)).alloc (oQ5 p k v)) (w2.heap.size+1) p k v/\w.heap.size+1<B/\T<=w2.heap.size/\w.heap.size+1<w2.heap.size/\((w2.alloc (oQ4 x.pa x.pn x.pc x.sa x.sn x.sc x.wa x.wn x.wc x.ha x.hn x.hc)).alloc (oQ5 p k v)).heap.size=w2.heap.size+2):=⟨F0.1.trans (bA.mono F0.1.size),F0.2.1.keep (by simp;omega) fun b _ _ hl=>bA.block b hl,F0.2.2.1.below bA,F0.2.2.2.1.blk (bA.block _ F0.2.2.2.1.lt),(Bx.new w2 _ _ _ _ _).below (zQ _ _),h3,F0.2.2.2.2.1,F0.2.2.2.2.2.1,F0.2.2.2.2.2.2,by simp⟩
 clear F0 h3 bA;generalize (w2.alloc (oQ4 x.pa x.pn x.pc x.sa x.sn x.sc x.wa x.wn x.wc x.ha x.hn x.hc)).alloc (oQ5 p k v)=wA at *;generalize w2.heap.size=M at *;clear w2;have q0:Below wA.heap.size wA wA.drew:=(Below.refl wA.heap.size wA).drew;refine qan (fun w'=>BoxC w' M (.slice x.pa x.pn x.pc) (.slice x.sa x.sn x.sc) (.slice x.wa x.wn x.wc) (.slice x.ha x.hn x.hc)/\w'.cell? ⟨M+1,0,none⟩=some (.int .i64 p)/\w'.cell? ⟨M+1,1,none⟩=some (.int .i64 k)/\w'.cell? ⟨M+1,2,none⟩=some (.int .i64 v)) (fun _=>false) (by kernel_rfl) ?_;have D5:Hid (Below w.heap.size w wA.drew/\SysX wA.drew B T x/\Bx wA.drew w.heap.size (.slice none 0 0) (.slice none 0 0) (.slice none 0 0) (.slice none 0 0)/\St3 wA.drew (w.heap.size+1) 0 0 0/\Bx wA.drew M (.slice x.pa x.pn x.pc) (.slice x.sa x.sn x.sc) (.slice x.wa x.wn x.wc) (.slice x.ha x.hn x.hc)/\St3 wA.drew (M+1) p k v/\w.heap.size+1<B/\T<=M/\w.heap.size+1<M/\wA.drew.heap.size=M+2):=⟨FA.1.drew,FA.2.1.keep (Nat.le_refl _) fun b _ _ _=>rfl,FA.2.2.1.below q0,FA.2.2.2.1.blk (q0.block _ FA.2.2.2.1.lt),FA.2.2.2.2.1.below q0,FA.2.2.2.2.2.1.blk (q0.block _ FA.2.2.2.2.2.1.lt),FA.2.2.2.2.2.2.1,FA.2.2.2.2.2.2.2.1,FA.2.2.2.2.2.2.2.2.1,FA.2.2.2.2.2.2.2.2.2⟩
 clear FA q0;generalize wA.drew=w5 at *;have hHeld:(fun w':World=>BoxC w' M (.slice x.pa x.pn x.pc) (.slice x.sa x.sn x.sc) (.slice x.wa x.wn x.wc) (.slice x.ha x.hn x.hc)/\w'.cell? ⟨M+1,0,none⟩=some (.int .i64 p)/\w'.cell? ⟨M+1,1,none⟩=some (.int .i64 k)/\w'.cell? ⟨M+1,2,none⟩=some (.int .i64 v)) w5:=⟨D5.2.2.2.2.1.1,D5.2.2.2.2.2.1.c0,D5.2.2.2.2.2.1.c1,D5.2.2.2.2.2.1.c2⟩
 refine qap 0 rfl hHeld ?_;refine qap 1 rfl hHeld ?_;clear hHeld;obtain ⟨⟨x0,x1,x2,x3⟩,xf⟩:=D5.2.2.1;have f0:=xf 0;have f1:=xf 1;have f2:=xf 2;have f3:=xf 3;have hz:=D5.2.2.2.2.2.2;refine qaa 2 rfl (by kernel_rfl) (fun K hK=>?_);go_simp;have hb7:Below w.heap.size w5 ((((w5.setCell ⟨w.heap.size,0,none⟩ (.slice x.pa x.pn x.pc)).setCell ⟨w.heap.size,1,none⟩ (.slice x.sa x.sn x.sc)).setCell ⟨w.heap.size,2,none⟩ (.slice x.wa x.wn x.wc)).setCell ⟨w.heap.size,3,none⟩ (.slice x.ha x.hn x.hc)):=((((Below.refl w.heap.size w5).setCell (Nat.le_refl _) _).setCell (Nat.le_refl _) _).setCell (Nat.le_refl _) _).setCell (Nat.le_refl _) _
 have hk7:∀ b,b≠w.heap.size->((((w5.setCell ⟨w.heap.size,0,none⟩ (.slice x.pa x.pn x.pc)).setCell ⟨w.heap.size,1,none⟩ (.slice x.sa x.sn x.sc)).setCell ⟨w.heap.size,2,none⟩ (.slice x.wa x.wn x.wc)).setCell ⟨w.heap.size,3,none⟩ (.slice x.ha x.hn x.hc)).heap[b]? = w5.heap[b]?:=fun b hb=>by
  rw [zO _ _ _ _ hb,zO _ _ _ _ hb,zO _ _ _ _ hb,zO _ _ _ _ hb]
 have s7:St3 ((((w5.setCell ⟨w.heap.size,0,none⟩ (.slice x.pa x.pn x.pc)).setCell ⟨w.heap.size,1,none⟩ (.slice x.sa x.sn x.sc)).setCell ⟨w.heap.size,2,none⟩ (.slice x.wa x.wn x.wc)).setCell ⟨w.heap.size,3,none⟩ (.slice x.ha x.hn x.hc)) (M+1) p k v:=D5.2.2.2.2.2.1.blk (hk7 _ (by omega));have F7:Hid (Below w.heap.size w ((((w5.setCell ⟨w.heap.size,0,none⟩ (.slice x.pa x.pn x.pc)).setCell ⟨w.heap.size,1,none⟩ (.slice x.sa x.sn x.sc)).setCell ⟨w.heap.size,2,none⟩ (.slice x.wa x.wn x.wc)).setCell ⟨w.heap.size,3,none⟩ (.slice x.ha x.hn x.hc))/\SysX ((((w5.setCell ⟨w.heap.size,0,none⟩ (.slice x.pa x.pn x.pc)).setCell ⟨w.heap.size,1,none⟩ (.slice x.sa x.sn x.sc)).setCell ⟨w.heap.size,2,none⟩ (.slice x.wa x.wn x.wc)).setCell ⟨w.heap.size,3,none⟩ (.slice x.ha x.hn x.hc)) B T x/\BoxC ((((w5.setCell ⟨w.heap.size,0,none⟩ (.slice x.pa x.pn x.pc)).setCell ⟨w.heap.size,1,none⟩ (.slice x.sa x.sn x.sc)).setCell ⟨w.heap.size,2,none⟩ (.slice x.wa x.wn x.wc)).setCell ⟨w.heap.size,3,none⟩ (.slice x.ha x.hn x.hc)) w.heap.size (.slice x.pa x.pn x.pc) (.slice x.sa x.sn x.sc) (.slice x.wa x.wn x.wc) (.slice x.ha x.hn x.hc)/\St3 ((((w5.setCell ⟨w.heap.size,0,none⟩ (.slice x.pa x.pn x.pc)).setCell ⟨w.heap.size,1,none⟩ (.slice x.sa x.sn x.sc)).setCell ⟨w.heap.size,2,none⟩ (.slice x.wa x.wn x.wc)).setCell ⟨w.heap.size,3,none⟩ (.slice x.ha x.hn x.hc)) (w.heap.size+1) 0 0 0/\(BoxC ((((w5.setCell ⟨w.heap.size,0,none⟩ (.slice x.pa x.pn x.pc)).setCell ⟨w.heap.size,1,none⟩ (.slice x.sa x.sn x.sc)).setCell ⟨w.heap.size,2,none⟩ (.slice x.wa x.wn x.wc)).setCell ⟨w.heap.size,3,none⟩ (.slice x.ha x.hn x.hc)) M (.slice x.pa x.pn x.pc) (.slice x.sa x.sn x.sc) (.slice x.wa x.wn x.wc) (.slice x.ha x.hn x.hc)/\((((w5.setCell ⟨w.heap.size,0,none⟩ (.slice x.pa x.pn x.pc)).setCell ⟨w.heap.size,1,none⟩ (.slice x.sa x.sn x.sc)).setCell ⟨w.heap.size,2,none⟩ (.slice x.wa x.wn x.wc)).setCell ⟨w.heap.size,3,none⟩ (.slice x.ha x.hn x.hc)).cell? ⟨M+1,0,none⟩=some (.int .i64 p)/\((((w5.setCell ⟨w.heap.size,0,none⟩ (.slice x.pa x.pn x.pc)).setCell ⟨w.heap.size,1,none⟩ (.slice x.sa x.sn x.sc)).setCell ⟨w.heap.size,2,none⟩ (.slice x.wa x.wn x.wc)).setCell ⟨w.heap.size,3,none⟩ (.slice x.ha x.hn x.hc)).cell? ⟨M+1,1,none⟩=some (.int .i64 k)/\((((w5.setCell ⟨w.heap.size,0,none⟩ (.slice x.pa x.pn x.pc)).setCell ⟨w.heap.size,1,none⟩ (.slice x.sa x.sn x.sc)).setCell ⟨w.heap.size,2,none⟩ (.slice x.wa x.wn x.wc)).setCell ⟨w.heap.size,3,none⟩ (.slice x.ha x.hn x.hc)).cell? ⟨M+1,2,none⟩=some (.int .i64 v))/\w.heap.size+1<B/\T<=M/\w.heap.size+1<M/\w5.heap.size=M+2):=⟨D5.1.trans hb7,D5.2.1.keep (by simp) fun b hb _ _=>hk7 b (by omega),BoxC.set4 ⟨x0,x1,x2,x3⟩ _ _ _ _,D5.2.2.2.1.blk (hk7 _ (by omega)),⟨D5.2.2.2.2.1.1.blkM (hk7 _ (by omega)),s7.c0,s7.c1,s7.c2⟩,hz⟩
 refine hK.out _ _ (fun _=>F7.2.2.2.2.1) ?_;clear hK K hb7 hk7 s7 x0 x1 x2 x3 xf f0 f1 f2 f3
 (try simp only [Act.put,zD,zE,zF])
 have hsz:(((((w5.setCell ⟨w.heap.size,0,none⟩ (.slice x.pa x.pn x.pc)).setCell ⟨w.heap.size,1,none⟩ (.slice x.sa x.sn x.sc)).setCell ⟨w.heap.size,2,none⟩ (.slice x.wa x.wn x.wc)).setCell ⟨w.heap.size,3,none⟩ (.slice x.ha x.hn x.hc))).heap.size=w5.heap.size:=by simp
 have HSZ:Hid ((((((w5.setCell ⟨w.heap.size,0,none⟩ (.slice x.pa x.pn x.pc)).setCell ⟨w.heap.size,1,none⟩ (.slice x.sa x.sn x.sc)).setCell ⟨w.heap.size,2,none⟩ (.slice x.wa x.wn x.wc)).setCell ⟨w.heap.size,3,none⟩ (.slice x.ha x.hn x.hc))).heap.size=w5.heap.size):=hsz;clear hsz;generalize ((((w5.setCell ⟨w.heap.size,0,none⟩ (.slice x.pa x.pn x.pc)).setCell ⟨w.heap.size,1,none⟩ (.slice x.sa x.sn x.sc)).setCell ⟨w.heap.size,2,none⟩ (.slice x.wa x.wn x.wc)).setCell ⟨w.heap.size,3,none⟩ (.slice x.ha x.hn x.hc))=w7 at *;obtain ⟨y0,y1,y2,yf⟩:=F7.2.2.2.1;have f0:=yf 0;have f1:=yf 1;have f2:=yf 2;refine qaa 3 rfl (by kernel_rfl) (fun K hK=>?_);go_simp
 have hk8:∀ b,b≠w.heap.size+1->(((w7.setCell ⟨w.heap.size+1,0,none⟩ (.int .i64 p)).setCell ⟨w.heap.size+1,1,none⟩ (.int .i64 k)).setCell ⟨w.heap.size+1,2,none⟩ (.int .i64 v)).heap[b]? = w7.heap[b]?:=fun b hb=>by
  rw [zO _ _ _ _ hb,zO _ _ _ _ hb,zO _ _ _ _ hb]
 have hR:w.heap.size<=w.heap.size+1:=Nat.le_succ _;have hM1:=hk8 (M+1) (by omega);have F8:Hid (Below w.heap.size w (((w7.setCell ⟨w.heap.size+1,0,none⟩ (.int .i64 p)).setCell ⟨w.heap.size+1,1,none⟩ (.int .i64 k)).setCell ⟨w.heap.size+1,2,none⟩ (.int .i64 v))/\SysX (((w7.setCell ⟨w.heap.size+1,0,none⟩ (.int .i64 p)).setCell ⟨w.heap.size+1,1,none⟩ (.int .i64 k)).setCell ⟨w.heap.size+1,2,none⟩ (.int .i64 v)) B T x/\BoxC (((w7.setCell ⟨w.heap.size+1,0,none⟩ (.int .i64 p)).setCell ⟨w.heap.size+1,1,none⟩ (.int .i64 k)).setCell ⟨w.heap.size+1,2,none⟩ (.int .i64 v)) w.heap.size (.slice x.pa x.pn x.pc) (.slice x.sa x.sn x.sc) (.slice x.wa x.wn x.wc) (.slice x.ha x.hn x.hc)/\(BoxC (((w7.setCell ⟨w.heap.size+1,0,none⟩ (.int .i64 p)).setCell ⟨w.heap.size+1,1,none⟩ (.int .i64 k)).setCell ⟨w.heap.size+1,2,none⟩ (.int .i64 v)) M (.slice x.pa x.pn x.pc) (.slice x.sa x.sn x.sc) (.slice x.wa x.wn x.wc) (.slice x.ha x.hn x.hc)/\(((w7.setCell ⟨w.heap.size+1,0,none⟩ (.int .i64 p)).setCell ⟨w.heap.size+1,1,none⟩ (.int .i64 k)).setCell ⟨w.heap.size+1,2,none⟩ (.int .i64 v)).cell? ⟨M+1,0,none⟩=some (.int .i64 p)/\(((w7.setCell ⟨w.heap.size+1,0,none⟩ (.int .i64 p)).setCell ⟨w.heap.size+1,1,none⟩ (.int .i64 k)).setCell ⟨w.heap.size+1,2,none⟩ (.int .i64 v)).cell? ⟨M+1,1,none⟩=some (.int .i64 k)/\(((w7.setCell ⟨w.heap.size+1,0,none⟩ (.int .i64 p)).setCell ⟨w.heap.size+1,1,none⟩ (.int .i64 k)).setCell ⟨w.heap.size+1,2,none⟩ (.int .i64 v)).cell? ⟨M+1,2,none⟩=some (.int .i64 v))/\w.heap.size+1<B/\T<=((((w7.setCell ⟨w.heap.size+1,0,none⟩ (.int .i64 p)).setCell ⟨w.heap.size+1,1,none⟩ (.int .i64 k)).setCell ⟨w.heap.size+1,2,none⟩ (.int .i64 v))).heap.size):=⟨((F7.1.setCell hR _).setCell hR _).setCell hR _,F7.2.1.keep (by simp) fun b hb _ _=>hk8 b (by omega),F7.2.2.1.blkM (hk8 _ (by omega)),⟨F7.2.2.2.2.1.1.blkM (hk8 _ (by omega)),(zH hM1).trans F7.2.2.2.2.1.2.1,(zH hM1).trans F7.2.2.2.2.1.2.2.1,(zH hM1).trans F7.2.2.2.2.1.2.2.2⟩,F7.2.2.2.2.2.1,by have:=F7.2.2.2.2.2.2;have:=HSZ.out;simp;omega⟩
 refine hK.out _ _ (fun _=>F8.2.2.2.1) ?_;clear hK K hk8 hM1
 (try simp only [Act.put,zD,zE,zF])
 refine qau (by kernel_rfl) ?_ _;obtain ⟨x0,x1,x2,x3⟩:=F8.2.2.1;go_wp2;exact bodyPost_ret (v:=.tuple #[x.v,spV p k v]) (by simp [results,Tryz.results5,go_sem,x0,x1,x2,x3,y0,y1,y2]) rfl ⟨x,B,T,p,k,v,rfl,HM.out,F8.2.1,F8.2.2.2.2.1,F8.2.2.2.2.2,F8.1⟩
structure WJ (w wr:World) (X:Nat) (x:SysIn):Prop where
 g:SysG wr x
 bx:BoxC wr X (.slice x.pa x.pn x.pc) (.slice x.sa x.sn x.sc) (.slice x.wa x.wn x.wc) (.slice x.ha x.hn x.hc)
 be:Below w.heap.size w wr
theorem WJ.below {w wr w':World} {X:Nat} {x:SysIn} (h:WJ w wr X x) (hb:Below wr.heap.size wr w'):WJ w w' X x:=⟨h.g.below hb,h.bx.below hb,h.be.trans (hb.mono h.be.size)⟩
theorem WJ.lt {w wr:World} {X:Nat} {x:SysIn} (h:WJ w wr X x):X<wr.heap.size:=zJ wr _ h.bx.1
theorem qak.inJ {z:Bool} {w:World} {B:Nat} {y:Sy} {v:Value} (o:qak z w B y v):∃ x:SysIn,v=x.v/\x.y=y/\SysG w x/\(∀ i,i<x.hn->x.hL i<=x.hC i)/\x.Nn false:=by
 obtain ⟨x,e1,e2,h⟩:=o.sysT.x;exact ⟨x,e1,e2,h.self,h.cap,h.nn⟩
open Go.ChangeShapes Go.WideShapes Go.ChangeAt
structure LJ (w wr:World) (X Z:Nat) (x:SysIn) (p k v:Int):Prop where
 j:WJ w wr X x
 s:St3 wr Z p k v
theorem LJ.below {w wr w':World} {X Z:Nat} {x:SysIn} {p k v:Int} (h:LJ w wr X Z x p k v) (hb:Below wr.heap.size wr w'):LJ w w' X Z x p k v:=⟨h.j.below hb,h.s.blk (hb.block _ h.s.lt)⟩
theorem LJ.cs {w wr:World} {X Z:Nat} {x:SysIn} {p kd v:Int} (h:LJ w wr X Z x p kd v):BoxC wr X (.slice x.pa x.pn x.pc) (.slice x.sa x.sn x.sc) (.slice x.wa x.wn x.wc) (.slice x.ha x.hn x.hc)/\wr.cell? ⟨Z,0,none⟩=some (.int .i64 p)/\wr.cell? ⟨Z,1,none⟩=some (.int .i64 kd)/\wr.cell? ⟨Z,2,none⟩=some (.int .i64 v):=⟨h.j.bx,h.s.c0,h.s.c1,h.s.c2⟩
theorem qh8 (a0:Option Addr) (len cap:Nat) (w:World) (hl:len<=1048576) (hB:qb3 w w.heap.size a0 len) (hV:w.cell? ⟨0,0,none⟩=some (.iface 211 (.agg #[.pointer (some ⟨1,73,none⟩)]))):
  Calls Tryz.prog 3 #[.slice a0 len cap] w fun e w'=>e=.returned (.bool true)/\Below w.heap.size w w':=by
 have HB:Hid (qb3 w w.heap.size a0 len):=hB;have HV:Hid (∀ wx,Below w.heap.size w wx->wx.cell? ⟨0,0,none⟩=some (.iface 211 (.agg #[.pointer (some ⟨1,73,none⟩)]))):=fun wx hb=>(hb.cell (p:=⟨0,0,none⟩) (zJ w _ hV)).trans hV;clear hB hV
 go_enter Tryz.func3,Tryz.ntmps3
 go_wp2_with fail
 refine (qqc a0 len cap w).mono ?_;rintro e w1 ⟨rfl,e1⟩;obtain rfl:=e1.symm;rw [decide_eq_false (show ¬ (1048576:Int)<(len:Int) by omega)];go_wp2_with fail
 refine (qj8 w.heap.size len cap a0 w HB.out (Nat.le_refl _) hl).mono ?_;rintro e w2 ⟨x,B,T,p,kd,v,rfl,hm,hX,-,-,b2⟩;have HM:Hid (x.Len/\(∀ i,i<x.hn->x.hL i<=x.hC i)/\x.Nn false):=⟨hm.inLen,hX.cap,hX.nn⟩
 have bA:=(zQ w2 (oQ4 x.pa x.pn x.pc x.sa x.sn x.sc x.wa x.wn x.wc x.ha x.hn x.hc)).trans ((zQ (w2.alloc (oQ4 x.pa x.pn x.pc x.sa x.sn x.sc x.wa x.wn x.wc x.ha x.hn x.hc)) (oQ5 p kd v)).mono (by simp))
 have K2:Hid (LJ w ((w2.alloc (oQ4 x.pa x.pn x.pc x.sa x.sn x.sc x.wa x.wn x.wc x.ha x.hn x.hc)).alloc (oQ5 p kd v)) w2.heap.size (w2.heap.size+1) x p kd v):=by
  have h3:=St3.new (w2.alloc (oQ4 x.pa x.pn x.pc x.sa x.sn x.sc x.wa x.wn x.wc x.ha x.hn x.hc)) p kd v 31;rw [World.size_alloc] at h3;exact ⟨⟨hX.self.below bA,(BoxC.new w2 _ _ _ _ _).below (zQ _ _),b2.trans (bA.mono b2.size)⟩,h3⟩
 clear hX b2 hm HB bA;go_upto_region 4 with fail
 generalize (w2.alloc (oQ4 x.pa x.pn x.pc x.sa x.sn x.sc x.wa x.wn x.wc x.ha x.hn x.hc)).alloc (oQ5 p kd v)=W2 at *;generalize hZ:w2.heap.size+1=Z at *;generalize w2.heap.size=X at *;clear hZ w2;obtain ⟨hneg,hpos⟩:=qpo x.y p kd v;obtain ⟨K,hK⟩:∃ K,lsI x.y p kd v=K:=⟨_,rfl⟩
 obtain ⟨H,hH⟩:∃ H,hsB x.y p kd v=H:=⟨_,rfl⟩
 obtain ⟨O,hO⟩:∃ O,spB x.y p kd=O:=⟨_,rfl⟩
 rw [hK,hH] at hneg hpos;have HF:Hid ((K<0->H=false)/\(0<=K->∃ P J:Nat,p=P/\K=J/\P<x.y.pn/\x.y.Ok/\knB kd=true/\J<=x.y.hL P/\lsF (x.y.pH P) (x.y.pL P) (x.y.hH P) kd v J=true/\H=((J:Int) == (x.y.hL P:Int)))):=⟨hneg,hpos⟩
 have HLi:Hid (∀ wx,LJ w wx X Z x p kd v->Calls Tryz.prog 6 #[x.v,spV p kd v] wx fun e w'=>e=.returned (.int .i64 K)/\Below wx.heap.size wx w'):=fun wx hd=>by
  rw [<- hK];exact qk7 x p kd v wx hd.j.g HM.1 HM.2.1 (HV.out _ hd.j.be)
 have HLs:Hid (∀ wx,LJ w wx X Z x p kd v->Calls Tryz.prog 7 #[x.v,spV p kd v] wx fun e w'=>e=.returned (.int .i64 K)/\Below wx.heap.size wx w'):=fun wx hd=>by
  rw [<- hK];exact qlt x p kd v wx hd.j.g HM.1 HM.2.1
 have HHi:Hid (∀ wx,LJ w wx X Z x p kd v->Calls Tryz.prog 8 #[x.v,spV p kd v] wx fun e w'=>e=.returned (.bool H)/\Below wx.heap.size wx w'):=fun wx hd=>by
  rw [<- hH];exact qfc x p kd v wx hd.j.g HM.1 (HV.out _ hd.j.be)
 have HHs:Hid (∀ wx,LJ w wx X Z x p kd v->Calls Tryz.prog 9 #[x.v,spV p kd v] wx fun e w'=>e=.returned (.bool H)/\Below wx.heap.size wx w'):=fun wx hd=>by
  rw [<- hH];exact qjt x p kd v wx hd.j.g HM.1 HM.2.1
 have HOi:Hid (∀ wx,LJ w wx X Z x p kd v->Calls Tryz.prog 10 #[x.v,spV p kd v] wx fun e w'=>e=.returned (.bool O)/\Below wx.heap.size wx w'):=fun wx hd=>by
  rw [<- hO];exact qh4 x p kd v wx hd.j.g HM.1 (HV.out _ hd.j.be)
 have HOs:Hid (∀ wx,LJ w wx X Z x p kd v->Calls Tryz.prog 11 #[x.v,spV p kd v] wx fun e w'=>e=.returned (.bool O)/\Below wx.heap.size wx w'):=fun wx hd=>by
  rw [<- hO];exact qc7 x p kd v wx hd.j.g HM.1 HM.2.1
 clear hneg hpos hK hH hO;obtain ⟨⟨z0,z1,z2,z3⟩,y0,y1,y2⟩:=K2.out.cs;go_wp2_with fail
 clear z0 z1 z2 z3 y0 y1 y2;refine (HLi.out W2 K2.out).mono ?_;rintro e w3 ⟨rfl,d3⟩;have K3:Hid (LJ w w3 X Z x p kd v):=K2.out.below d3;clear d3 K2;go_upto_region 5 with fail
 have hKK:(K != K)=false:=by simp
 have hHH:(H != H)=false:=by cases H <;> rfl
 have hOO:(O != O)=false:=by cases O <;> rfl
 have q0:Below w3.heap.size w3 w3.drew:=(Below.refl w3.heap.size w3).drew;have HS0:Hid (∀ wx,Below w3.heap.size w3 wx->BoxC wx X (.slice x.pa x.pn x.pc) (.slice x.sa x.sn x.sc) (.slice x.wa x.wn x.wc) (.slice x.ha x.hn x.hc)/\wx.cell? ⟨Z,0,none⟩=some (.int .i64 p)/\wx.cell? ⟨Z,1,none⟩=some (.int .i64 kd)/\wx.cell? ⟨Z,2,none⟩=some (.int .i64 v)):=fun wx hb=>(K3.out.below hb).cs;refine qan (fun w'=>BoxC w' X (.slice x.pa x.pn x.pc) (.slice x.sa x.sn x.sc) (.slice x.wa x.wn x.wc) (.slice x.ha x.hn x.hc)/\w'.cell? ⟨Z,0,none⟩=some (.int .i64 p)/\w'.cell? ⟨Z,1,none⟩=some (.int .i64 kd)/\w'.cell? ⟨Z,2,none⟩=some (.int .i64 v)) (fun _=>false) (by kernel_rfl) ?_;have hHeld:=HS0.out _ q0;refine qap 0 rfl hHeld ?_;refine qap 1 rfl hHeld ?_;refine qap 2 rfl hHeld ?_;refine qaa 3 rfl (by kernel_rfl) (fun Kc hKc=>?_);refine qbs rfl 7 _ _ rfl #[x.v,spV p kd v] (by simp [Act.eval]) (yA Tryz.func7 (by kernel_rfl) rfl) (HLs.out w3.drew (K3.out.below q0)) ?_;rintro e w4 ⟨rfl,b4⟩;have q4:Below w3.heap.size w3 w4:=q0.trans (b4.mono q0.size);refine ⟨_,rfl,?_⟩;refine hKc.out _ _ (fun _=>HS0.out _ q4) ?_;clear hKc Kc hHeld
 (try simp only [Act.put,zD,zE,zF])
 have hHeld:=HS0.out _ q4;refine qap 4 rfl hHeld ?_;refine qap 5 rfl hHeld ?_;refine qap 6 rfl hHeld ?_;refine qap 7 rfl hHeld ?_;refine qap 9 rfl hHeld ?_;refine qap 10 rfl hHeld ?_;refine qaa 8 rfl (by kernel_rfl) (fun Kc hKc=>?_);refine qbs rfl 8 _ _ rfl #[x.v,spV p kd v] (by simp [Act.eval]) (yA Tryz.func8 (by kernel_rfl) rfl) (HHi.out w4 (K3.out.below q4)) ?_;rintro e w5 ⟨rfl,b5⟩;have q5:Below w3.heap.size w3 w5:=q4.trans (b5.mono q4.size);refine ⟨_,rfl,?_⟩;refine hKc.out _ _ (fun _=>HS0.out _ q5) ?_;clear hKc Kc hHeld
 (try simp only [Act.put,zD,zE,zF])
 have hHeld:=HS0.out _ q5;refine qaa 11 rfl (by kernel_rfl) (fun Kc hKc=>?_);refine qbs rfl 9 _ _ rfl #[x.v,spV p kd v] (by simp [Act.eval]) (yA Tryz.func9 (by kernel_rfl) rfl) (HHs.out w5 (K3.out.below q5)) ?_;rintro e w6 ⟨rfl,b6⟩;have q6:Below w3.heap.size w3 w6:=q5.trans (b6.mono q5.size);refine ⟨_,rfl,?_⟩;refine hKc.out _ _ (fun _=>HS0.out _ q6) ?_;clear hKc Kc hHeld
 (try simp only [Act.put,zD,zE,zF])
 have hHeld:=HS0.out _ q6;refine qap 12 rfl hHeld ?_;refine qap 13 rfl hHeld ?_;refine qap 14 rfl hHeld ?_;refine qap 15 rfl hHeld ?_;refine qap 16 rfl hHeld ?_;refine qap 18 rfl hHeld ?_;refine qap 19 rfl hHeld ?_;refine qaa 17 rfl (by kernel_rfl) (fun Kc hKc=>?_);refine qbs rfl 10 _ _ rfl #[x.v,spV p kd v] (by simp [Act.eval]) (yA Tryz.func10 (by kernel_rfl) rfl) (HOi.out w6 (K3.out.below q6)) ?_;rintro e w7 ⟨rfl,b7⟩;have q7:Below w3.heap.size w3 w7:=q6.trans (b7.mono q6.size);refine ⟨_,rfl,?_⟩;refine hKc.out _ _ (fun _=>HS0.out _ q7) ?_;clear hKc Kc hHeld
 (try simp only [Act.put,zD,zE,zF])
 have hHeld:=HS0.out _ q7;refine qaa 20 rfl (by kernel_rfl) (fun Kc hKc=>?_);refine qbs rfl 11 _ _ rfl #[x.v,spV p kd v] (by simp [Act.eval]) (yA Tryz.func11 (by kernel_rfl) rfl) (HOs.out w7 (K3.out.below q7)) ?_;rintro e w8 ⟨rfl,b8⟩;have q8:Below w3.heap.size w3 w8:=q7.trans (b8.mono q7.size);refine ⟨_,rfl,?_⟩;refine hKc.out _ _ (fun _=>HS0.out _ q8) ?_;clear hKc Kc hHeld
 (try simp only [Act.put,zD,zE,zF])
 have hHeld:=HS0.out _ q8;refine qap 21 rfl hHeld ?_;refine qap 22 rfl hHeld ?_;have K8:Hid (LJ w w8 X Z x p kd v):=K3.out.below q8;clear hHeld HS0 q0 q4 q5 q6 q7 q8 b4 b5 b6 b7 b8 K3 hKK hHH hOO HLi HLs HHs HOi HOs;refine qau (by kernel_rfl) ?_ _;by_cases hk0:K<0
 ·have HN:Hid (H=false):=HF.1 hk0
  obtain ⟨⟨z0,z1,z2,z3⟩,y0,y1,y2⟩:=K8.out.cs;go_wp2_with fail
  clear z0 z1 z2 z3 y0 y1 y2;refine (HHi.out _ K8.out).mono ?_;rintro e w9 ⟨rfl,d9⟩;rw [HN.out];have K9:Hid (LJ w w9 X Z x p kd v):=K8.out.below d9;clear d9;go_wp2;go_ret;exact ⟨rfl,K9.out.j.be⟩
 obtain ⟨P,J,rfl,rfl,hP,hO,hkn,hJ,hf,hHe⟩:=HF.2 (by omega);obtain ⟨hc,hb0⟩:=qrh hO hP hJ hkn hf;have hhn:x.hn=x.y.pn:=hO.cn.2.2.1;have HP:Hid (P<x.hn/\H=((J:Int) == (x.hL P:Int))/\x.hL P<=200/\x.hn=x.y.pn):=⟨by omega,hHe,hO.hl200 hP,hhn⟩
 clear HF hP hO hkn hJ hf hHe hhn;obtain ⟨C,hC⟩:∃ C,bkC x.y P J=C:=⟨_,rfl⟩
 rw [hC] at hc hb0;have HC:Hid ((C=0\/C=3)/\(C=0->((bkY x.y P J).hL P=J/\hsB (bkY x.y P J) P kd v=true/\(bkY x.y P J).Ok/\(bkY x.y P J).hn=x.y.pn))):=⟨hc,hb0⟩
 have HBk:Hid (∀ wx,LJ w wx X Z x P kd v->Calls Tryz.prog 12 #[x.v,.int .i64 (P:Nat),.int .i64 (J:Nat)] wx fun e w'=>∃ u,e=.returned (.tuple #[u,.int .i64 C])/\qak false w' wx.heap.size (bkY x.y P J) u/\Below wx.heap.size wx w'):=fun wx hd=>by
  have h9:=qk5 (zb:=false) x (P:Nat) (J:Nat) wx hd.j.g HM.1 HM.2.1 HM.2.2 (HV.out _ hd.j.be);rw [hC] at h9;exact h9
 clear hc hb0 hC;obtain ⟨⟨z0,z1,z2,z3⟩,y0,y1,y2⟩:=K8.out.cs;go_wp2_with fail
 clear z0 z1 z2 z3 y0 y1 y2;refine (HBk.out _ K8.out).mono ?_;rintro e w9 ⟨v9,rfl,o9,d9⟩;obtain ⟨x9,rfl,ey9,g9,-,-⟩:=o9.inJ;have K9:Hid (LJ w (w9.alloc (oQ4 x9.pa x9.pn x9.pc x9.sa x9.sn x9.sc x9.wa x9.wn x9.wc x9.ha x9.hn x9.hc)) X Z x P kd v/\WJ w (w9.alloc (oQ4 x9.pa x9.pn x9.pc x9.sa x9.sn x9.sc x9.wa x9.wn x9.wc x9.ha x9.hn x9.hc)) w9.heap.size x9/\x9.y=bkY x.y P J):=⟨(K8.out.below d9).below (zQ _ _),⟨g9.below (zQ _ _),BoxC.new _ _ _ _ _ _,((K8.out.below d9).below (zQ _ _)).j.be⟩,ey9⟩
 clear o9 ey9 g9 d9 K8 HBk;go_upto_region 10 with fail
 generalize w9.alloc (oQ4 x9.pa x9.pn x9.pc x9.sa x9.sn x9.sc x9.wa x9.wn x9.wc x9.ha x9.hn x9.hc)=W9 at *;generalize w9.heap.size=Y at *;clear w9;obtain ⟨⟨z0,z1,z2,z3⟩,y0,y1,y2⟩:=K9.1.cs;obtain ⟨t0,t1,t2,t3⟩:=K9.2.1.bx
 rcases HC.1 with h0 | h0
 ·subst h0
  obtain ⟨e1,e2,e3,e4⟩:=HC.2 rfl;rw [<- K9.2.2] at e1 e2 e3 e4
  have hP9:P<x9.hn:=by
   have h7:x9.hn=x.y.pn:=e4;have h8:=HP.1;have h6:=HP.2.2.2;omega
  have hP9':(P:Int)<(x9.hn:Int):=by omega
  obtain ⟨bh,oh,eh,ch⟩:=K9.2.1.g.h.at hP9;have e1':x9.hL P=J:=e1;replace ch:W9.cell? ⟨bh,oh+P,none⟩=some (.slice (x9.hA P) J (x9.hC P)):=by rw [<- e1'];exact ch
  rw [eh] at t3;have HE9:Hid (x9.ha=some ⟨bh,oh,none⟩):=eh
  have HH9:Hid (∀ wx,WJ w wx Y x9->Calls Tryz.prog 8 #[.agg #[.slice x9.pa x9.pn x9.pc,.slice x9.sa x9.sn x9.sc,.slice x9.wa x9.wn x9.wc,.slice (some ⟨bh,oh,none⟩) x9.hn x9.hc],spV P kd v] wx fun e w'=>e=.returned (.bool true)/\Below wx.heap.size wx w'):=fun wx hw=>by
   have h9:=qfc x9 P kd v wx hw.g e3.sm.inLen (HV.out _ hw.be);rw [e2] at h9;rw [<- HE9.out];exact h9
  have hJJ:((J:Int) == (J:Int))=true:=by simp
  clear eh e1 e1' e2 e3 e4 hP9;go_upto_region 12 with (go_at_call 8;refine (HH9.out _ K9.2.1).mono ?_;rintro e w10 ⟨rfl,d10⟩;have K10:Hid (LJ w w10 X Z x P kd v):=K9.1.below d10;clear d10)
  clear z0 z1 z2 z3 y0 y1 y2 t0 t1 t2 t3 ch hJJ hP9' K9;obtain ⟨bx,ox,ex,cx⟩:=K10.out.j.g.h.at HP.1;replace cx:w10.cell? ⟨bx,ox+P,none⟩=some (.slice (x.hA P) (x.hL P) (x.hC P)):=cx;have HEx:Hid (x.ha=some ⟨bx,ox,none⟩):=ex
  have HHx:Hid (∀ wx,LJ w wx X Z x P kd v->Calls Tryz.prog 8 #[.agg #[.slice x.pa x.pn x.pc,.slice x.sa x.sn x.sc,.slice x.wa x.wn x.wc,.slice (some ⟨bx,ox,none⟩) x.hn x.hc],spV P kd v] wx fun e w'=>e=.returned (.bool H)/\Below wx.heap.size wx w'):=fun wx hw=>by
   have h9:=HHi.out wx hw;have hv:x.v=.agg #[.slice x.pa x.pn x.pc,.slice x.sa x.sn x.sc,.slice x.wa x.wn x.wc,.slice x.ha x.hn x.hc]:=rfl;rw [hv,HEx.out] at h9;exact h9
  have q0:Below w10.heap.size w10 w10.drew:=(Below.refl w10.heap.size w10).drew;have HS1:Hid (∀ wx,Below w10.heap.size w10 wx->BoxC wx X (.slice x.pa x.pn x.pc) (.slice x.sa x.sn x.sc) (.slice x.wa x.wn x.wc) (.slice (some ⟨bx,ox,none⟩) x.hn x.hc)/\(wx.cell? ⟨Z,0,none⟩=some (.int .i64 (P:Nat))/\wx.cell? ⟨Z,1,none⟩=some (.int .i64 kd)/\wx.cell? ⟨Z,2,none⟩=some (.int .i64 v))/\wx.cell? ⟨bx,ox+P,none⟩=some (.slice (x.hA P) (x.hL P) (x.hC P))):=fun wx hb=>⟨by have h9:=(K10.out.below hb).cs.1;rw [HEx.out] at h9;exact h9,(K10.out.below hb).cs.2,(hb.cell (p:=⟨bx,ox+P,none⟩) (zJ w10 _ cx)).trans cx⟩
  have hPx:(P:Int)<(x.hn:Int):=by have:=HP.1;omega
  obtain ⟨E,hE⟩:∃ E,((J:Int) == (x.hL P:Int))=E:=⟨_,rfl⟩
  have hHE:H=E:=HP.2.1.trans hE;subst hHE;have hEE:(H == H)=true:=by simp
  clear ex cx;refine qan (fun w'=>BoxC w' X (.slice x.pa x.pn x.pc) (.slice x.sa x.sn x.sc) (.slice x.wa x.wn x.wc) (.slice (some ⟨bx,ox,none⟩) x.hn x.hc)/\(w'.cell? ⟨Z,0,none⟩=some (.int .i64 (P:Nat))/\w'.cell? ⟨Z,1,none⟩=some (.int .i64 kd)/\w'.cell? ⟨Z,2,none⟩=some (.int .i64 v))/\w'.cell? ⟨bx,ox+P,none⟩=some (.slice (x.hA P) (x.hL P) (x.hC P))) (fun _=>false) (by kernel_rfl) ?_;have hHeld:=HS1.out _ q0;refine qap 0 rfl hHeld ?_;refine qap 1 rfl hHeld ?_;refine qap 3 rfl hHeld ?_;refine qap 4 rfl hHeld ?_;refine qap 5 rfl hHeld ?_;refine qap 6 rfl hHeld ?_;refine qap 7 rfl hHeld ?_;refine qap 8 rfl hHeld ?_;refine qap 9 rfl hHeld ?_;refine qap 10 rfl hHeld ?_;refine qap 11 rfl hHeld ?_;refine qaa 2 rfl (by kernel_rfl) (fun Kc hKc=>?_);refine qbs rfl 8 _ _ rfl #[.agg #[.slice x.pa x.pn x.pc,.slice x.sa x.sn x.sc,.slice x.wa x.wn x.wc,.slice (some ⟨bx,ox,none⟩) x.hn x.hc],spV P kd v] (by simp [Act.eval]) (yA Tryz.func8 (by kernel_rfl) rfl) (HHx.out w10.drew (K10.out.below q0)) ?_;rintro e w11 ⟨rfl,b11⟩;have q11:Below w10.heap.size w10 w11:=q0.trans (b11.mono q0.size);refine ⟨_,rfl,?_⟩;refine hKc.out _ _ (fun _=>HS1.out _ q11) ?_;clear hKc Kc hHeld
  (try simp only [Act.put,zD,zE,zF])
  have hHeld:=HS1.out _ q11;refine qap 12 rfl hHeld ?_;refine qap 13 rfl hHeld ?_;refine qap 14 rfl hHeld ?_;refine qap 15 rfl hHeld ?_;refine qap 16 rfl hHeld ?_;refine qap 17 rfl hHeld ?_;refine qap 18 rfl hHeld ?_;refine qap 19 rfl hHeld ?_;refine qap 20 rfl hHeld ?_;refine qap 21 rfl hHeld ?_;have K11:Hid (LJ w w11 X Z x P kd v):=K10.out.below q11;clear hHeld HS1 q0 q11 b11 K10;refine qau (by kernel_rfl) ?_ _;go_wp2;go_ret;exact ⟨rfl,K11.out.j.be⟩
 ·subst h0
  go_upto_region 12 with fail
  have K10:Hid (LJ w W9 X Z x P kd v):=K9.1;clear z0 z1 z2 z3 y0 y1 y2 t0 t1 t2 t3 K9;obtain ⟨bx,ox,ex,cx⟩:=K10.out.j.g.h.at HP.1;replace cx:W9.cell? ⟨bx,ox+P,none⟩=some (.slice (x.hA P) (x.hL P) (x.hC P)):=cx;have HEx:Hid (x.ha=some ⟨bx,ox,none⟩):=ex
  have HHx:Hid (∀ wx,LJ w wx X Z x P kd v->Calls Tryz.prog 8 #[.agg #[.slice x.pa x.pn x.pc,.slice x.sa x.sn x.sc,.slice x.wa x.wn x.wc,.slice (some ⟨bx,ox,none⟩) x.hn x.hc],spV P kd v] wx fun e w'=>e=.returned (.bool H)/\Below wx.heap.size wx w'):=fun wx hw=>by
   have h9:=HHi.out wx hw;have hv:x.v=.agg #[.slice x.pa x.pn x.pc,.slice x.sa x.sn x.sc,.slice x.wa x.wn x.wc,.slice x.ha x.hn x.hc]:=rfl;rw [hv,HEx.out] at h9;exact h9
  have q0:Below W9.heap.size W9 W9.drew:=(Below.refl W9.heap.size W9).drew;have HS1:Hid (∀ wx,Below W9.heap.size W9 wx->BoxC wx X (.slice x.pa x.pn x.pc) (.slice x.sa x.sn x.sc) (.slice x.wa x.wn x.wc) (.slice (some ⟨bx,ox,none⟩) x.hn x.hc)/\(wx.cell? ⟨Z,0,none⟩=some (.int .i64 (P:Nat))/\wx.cell? ⟨Z,1,none⟩=some (.int .i64 kd)/\wx.cell? ⟨Z,2,none⟩=some (.int .i64 v))/\wx.cell? ⟨bx,ox+P,none⟩=some (.slice (x.hA P) (x.hL P) (x.hC P))):=fun wx hb=>⟨by have h9:=(K10.out.below hb).cs.1;rw [HEx.out] at h9;exact h9,(K10.out.below hb).cs.2,(hb.cell (p:=⟨bx,ox+P,none⟩) (zJ W9 _ cx)).trans cx⟩
  have hPx:(P:Int)<(x.hn:Int):=by have:=HP.1;omega
  obtain ⟨E,hE⟩:∃ E,((J:Int) == (x.hL P:Int))=E:=⟨_,rfl⟩
  have hHE:H=E:=HP.2.1.trans hE;subst hHE;have hEE:(H == H)=true:=by simp
  clear ex cx;refine qan (fun w'=>BoxC w' X (.slice x.pa x.pn x.pc) (.slice x.sa x.sn x.sc) (.slice x.wa x.wn x.wc) (.slice (some ⟨bx,ox,none⟩) x.hn x.hc)/\(w'.cell? ⟨Z,0,none⟩=some (.int .i64 (P:Nat))/\w'.cell? ⟨Z,1,none⟩=some (.int .i64 kd)/\w'.cell? ⟨Z,2,none⟩=some (.int .i64 v))/\w'.cell? ⟨bx,ox+P,none⟩=some (.slice (x.hA P) (x.hL P) (x.hC P))) (fun _=>false) (by kernel_rfl) ?_;have hHeld:=HS1.out _ q0;refine qap 0 rfl hHeld ?_;refine qap 1 rfl hHeld ?_;refine qap 3 rfl hHeld ?_;refine qap 4 rfl hHeld ?_;refine qap 5 rfl hHeld ?_;refine qap 6 rfl hHeld ?_;refine qap 7 rfl hHeld ?_;refine qap 8 rfl hHeld ?_;refine qap 9 rfl hHeld ?_;refine qap 10 rfl hHeld ?_;refine qap 11 rfl hHeld ?_;refine qaa 2 rfl (by kernel_rfl) (fun Kc hKc=>?_);refine qbs rfl 8 _ _ rfl #[.agg #[.slice x.pa x.pn x.pc,.slice x.sa x.sn x.sc,.slice x.wa x.wn x.wc,.slice (some ⟨bx,ox,none⟩) x.hn x.hc],spV P kd v] (by simp [Act.eval]) (yA Tryz.func8 (by kernel_rfl) rfl) (HHx.out W9.drew (K10.out.below q0)) ?_;rintro e w11 ⟨rfl,b11⟩;have q11:Below W9.heap.size W9 w11:=q0.trans (b11.mono q0.size);refine ⟨_,rfl,?_⟩;refine hKc.out _ _ (fun _=>HS1.out _ q11) ?_;clear hKc Kc hHeld
  (try simp only [Act.put,zD,zE,zF])
  have hHeld:=HS1.out _ q11;refine qap 12 rfl hHeld ?_;refine qap 13 rfl hHeld ?_;refine qap 14 rfl hHeld ?_;refine qap 15 rfl hHeld ?_;refine qap 16 rfl hHeld ?_;refine qap 17 rfl hHeld ?_;refine qap 18 rfl hHeld ?_;refine qap 19 rfl hHeld ?_;refine qap 20 rfl hHeld ?_;refine qap 21 rfl hHeld ?_;have K11:Hid (LJ w w11 X Z x P kd v):=K10.out.below q11;clear hHeld HS1 q0 q11 b11 K10;refine qau (by kernel_rfl) ?_ _;go_wp2;go_ret;exact ⟨rfl,K11.out.j.be⟩
theorem qh7 (a0:Option Addr) (len cap:Nat) (w:World) (_hm:len<=maxLen) (hl:1048576<len):
  Calls Tryz.prog 3 #[.slice a0 len cap] w fun e w'=>e=.returned (.bool true)/\Below w.heap.size w w':=by
 go_enter Tryz.func3,Tryz.ntmps3
 go_wp2_with fail
 refine (qqc a0 len cap w).mono ?_;rintro e w1 ⟨rfl,rfl⟩;rw [decide_eq_true (show (1048576:Int)<(len:Int) by omega)];go_wp2;go_ret;exact ⟨rfl,Below.refl _ _⟩
theorem qm7 (os:Os) (started:os.Started) (H:Type) (enc:TypeId × Value->H):
  ReturnsInHanded {} Tryz.checked os 3 .any (fun w args => (Rows.fnLastSpec.pre enc Tryz.prog Tryz.f3 [] false w args /\ laidMetH Tryz.prog [("errors.errorType", Rows.laid_errors_errorType)] w) /\ sizedMet enc Tryz.prog Tryz.f3 (OpenSpec.ofChange Rows.fnLastSpec) false w args)
   (Rows.fnLastSpec.post enc Tryz.prog Tryz.f3 false true false false):=by
 refine returnsInHanded_of_change_and (C := Tryz.checked) (X := fun w _ => laidMetH Tryz.prog [("errors.errorType", Rows.laid_errors_errorType)] w) (fun _ _ _ hh h => h.of_heap hh) Tryz.own started (by kernel_rfl) Tryz.func3
  (ChangeSpec.witness_at (enc := enc) (C := Tryz.checked) (os := os) (X := fun w _ => laidMetH Tryz.prog [("errors.errorType", Rows.laid_errors_errorType)] w) false (qlb os) #[.slice none 0 0] 8 rfl (by kernel_rfl) (by kernel_rfl) (by kernel_rfl) (by kernel_rfl) (by kernel_rfl) (qjh os _)) ?_
 intro W base args ds gs before hval0 hW _ _ hL _;have hval:∀ (j:Nat) t v,Tryz.f3.params[j]? = some t->args[j]? = some v->Value.okWide Tryz.prog W .any base t v:=hval0;have hW':=hW;obtain ⟨p,q,hA0,hV,rfl,hfz,hnd⟩:=hW;have hA:DataW.TrodAll enc Tryz.prog W 0 (fun _=>true) true Tryz.f3.params.toList args.toList ds p:=hA0;rw [Tryz.params3] at hA hval;obtain ⟨v0,d0,rfl,rfl,h0⟩:=trodAll_one hA;obtain ⟨rfl,rfl⟩:=trodVars_none hV;have lt0:∀ x ∈ p,x.block<W.heap.size:=by obtain ⟨m,hm⟩:=h0;exact DataW.trod_lt m _ _ _ hm
 have hg:=qh1 hL;clear hA0 hval0
 have hlaw:Calls Tryz.prog 3 #[v0] W fun e w'=>e=.returned (.bool true)/\Below W.heap.size W w':=by
  obtain ⟨a0,len,cap,rfl⟩:=okWide_slice Tryz.underlying22 (hval 0 22 v0 rfl rfl);obtain ⟨hm,hB⟩:=qpt h0;by_cases hs:len<=1048576
  ·exact qh8 a0 len cap W hs hB hg
  ·exact qh7 a0 len cap W hm (by omega)
 refine hlaw.mono fun e W' ⟨he,bel⟩=>?_;subst he;exact ⟨_,rfl,_,_,_,[],_,[],hW',trodAll_mk1 (shut_bool Tryz.underlying4 _),trodAll_mk1 (Below.trod Tryz.laidOut (by kernel_rfl) (of_decide_eq_true (by kernel_rfl)) h0 bel lt0),rfl,bel.frame _,fun h=>by cases h⟩
theorem qrg:Rows.FnLastSaid:=
 OpenClaim.holds_of_wide 3 Tryz.f3 rfl rfl rfl rfl rfl rfl rfl ⟨rfl,rfl,rfl,rfl,rfl⟩ rfl rfl rfl rfl rfl (by kernel_rfl) Tryz.func3 (by kernel_rfl)
  (of_decide_eq_true (by kernel_rfl)) (by unfold Func.isWrapper;first|(rw [if_pos (by decide +kernel)];kernel_rfl)|(rw [if_neg (by decide +kernel)];exact ⟨rfl,rfl⟩))
  (fun os started H enc _=>qm7 os started H enc)
theorem qpm (f : FuncId) (fn : Func) (hf : Tryz.pinned.checked.prog.funcNamed "loop.example/g00196/laws.FnLast" = some f) (hfn : Tryz.pinned.checked.prog.funcs[f]? = some fn) :
  true=Tryz.pinned.checked.prog.looks []/\∀ (j:Nat) t,fn.params[j]? = some t->Tryz.pinned.checked.prog.wantsStandIn t=false:=by
 obtain rfl : f = 3 := Option.some.inj ((show Tryz.prog.funcNamed "loop.example/g00196/laws.FnLast" = some 3 by kernel_rfl).symm.trans hf) |>.symm
 obtain rfl:fn=Tryz.f3:=(Option.some.inj (Tryz.func3.symm.trans hfn)).symm;refine ⟨by kernel_rfl,fun j t ht=>?_⟩;rw [Tryz.params3] at ht;have hm:=Array.mem_of_getElem? ht;simp at hm;obtain rfl:=hm;exact (show Tryz.prog.wantsStandIn 22=false by kernel_rfl)
theorem lastD_card:Rows.FnLastCardSaid:=
 Claim7.holds_tied_plain_at .later [] _ _ _ _ qrg (fun _ h=>by cases h) (by kernel_rfl) (fun _ h=>by cases h) fnLast_row_tie rfl ⟨rfl,rfl⟩ (by kernel_rfl) rfl qpm (by kernel_rfl)
