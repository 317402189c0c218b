import Derived.Test.YtkdablcbhhphoaaGreatDoorBk15
import Derived.Test.YtkdablcbhhphoaaGreatDoorBk16
import Derived.Laws.CopyRow
namespace Go.Proofs.YtkdablcbhhphoaaGreatDoor
set_option maxRecDepth 100000
set_option maxHeartbeats 4000000
open Go.ChangeShapes Go.WideShapes Go.ChangeAt Go.RowKit Go.Deep
theorem qst (x:SysIn) (l1 u1 l2 u2:Nat) (v1 v2:Value) (w:World) (hs:x.size<=1048576) (o1:qcf w l1 u1 x v1) (o2:qcf w l2 u2 x v2):
  Calls Tryz.prog 32 #[v1,v2] w fun e w'=>e=.returned (.bool true)/\Below w.heap.size w w':=by
 obtain ⟨D1,D2,D3,D4,b1,vs,b3,b4,h1,h2,h3,o1⟩:=o1;obtain ⟨E1,E2,E3,E4,c1,us,c3,c4,g1,g2,g3,o2⟩:=o2;have HS:Hid (x.size<=1048576):=hs;obtain ⟨rfl,p1,s1,w1,i1,-,-,-,-⟩:=o1;obtain ⟨rfl,p2,s2,w2,i2,-,-,-,-⟩:=o2;have P1:Hid (qbk w D1 h1 x.pn x.pL b1 x.pH):=p1;have P2:Hid (qbk w E1 g1 x.pn x.pL c1 x.pH):=p2;have S1:Hid (qau w D2 h2 x.sn x.sS vs):=s1;have S2:Hid (qau w E2 g2 x.sn x.sS us):=s2;have W1:Hid (qa3 w D3 h3 x.wn x.wL b3 x.wH):=w1;have W2:Hid (qa3 w E3 g3 x.wn x.wL c3 x.wH):=w2;have I1:Hid (qaw w D4 u1 x.hn x.hL b4 x.hH):=i1;have I2:Hid (qaw w E4 u2 x.hn x.hL c4 x.hH):=i2;clear p1 p2 s1 s2 w1 w2 i1 i2 hs
 go_enter Tryz.func32,Tryz.ntmps32
 have X0:Hid (BoxC ((w.alloc (oQ4 (some ⟨D1,0,none⟩) x.pn x.pn (some ⟨D2,0,none⟩) x.sn x.sn (some ⟨D3,0,none⟩) x.wn x.wn (some ⟨D4,0,none⟩) x.hn x.hn)).alloc (oQ4 (some ⟨E1,0,none⟩) x.pn x.pn (some ⟨E2,0,none⟩) x.sn x.sn (some ⟨E3,0,none⟩) x.wn x.wn (some ⟨E4,0,none⟩) x.hn x.hn)) w.heap.size (.slice (some ⟨D1,0,none⟩) x.pn x.pn) (.slice (some ⟨D2,0,none⟩) x.sn x.sn) (.slice (some ⟨D3,0,none⟩) x.wn x.wn) (.slice (some ⟨D4,0,none⟩) x.hn x.hn)/\BoxC ((w.alloc (oQ4 (some ⟨D1,0,none⟩) x.pn x.pn (some ⟨D2,0,none⟩) x.sn x.sn (some ⟨D3,0,none⟩) x.wn x.wn (some ⟨D4,0,none⟩) x.hn x.hn)).alloc (oQ4 (some ⟨E1,0,none⟩) x.pn x.pn (some ⟨E2,0,none⟩) x.sn x.sn (some ⟨E3,0,none⟩) x.wn x.wn (some ⟨E4,0,none⟩) x.hn x.hn)) (w.heap.size+1) (.slice (some ⟨E1,0,none⟩) x.pn x.pn) (.slice (some ⟨E2,0,none⟩) x.sn x.sn) (.slice (some ⟨E3,0,none⟩) x.wn x.wn) (.slice (some ⟨E4,0,none⟩) x.hn x.hn)/\Below w.heap.size w ((w.alloc (oQ4 (some ⟨D1,0,none⟩) x.pn x.pn (some ⟨D2,0,none⟩) x.sn x.sn (some ⟨D3,0,none⟩) x.wn x.wn (some ⟨D4,0,none⟩) x.hn x.hn)).alloc (oQ4 (some ⟨E1,0,none⟩) x.pn x.pn (some ⟨E2,0,none⟩) x.sn x.sn (some ⟨E3,0,none⟩) x.wn x.wn (some ⟨E4,0,none⟩) x.hn x.hn))/\w.heap.size+2<=((w.alloc (oQ4 (some ⟨D1,0,none⟩) x.pn x.pn (some ⟨D2,0,none⟩) x.sn x.sn (some ⟨D3,0,none⟩) x.wn x.wn (some ⟨D4,0,none⟩) x.hn x.hn)).alloc (oQ4 (some ⟨E1,0,none⟩) x.pn x.pn (some ⟨E2,0,none⟩) x.sn x.sn (some ⟨E3,0,none⟩) x.wn x.wn (some ⟨E4,0,none⟩) x.hn x.hn)).heap.size):=by
  have n1:=BoxC.new w (.slice (some ⟨D1,0,none⟩) x.pn x.pn) (.slice (some ⟨D2,0,none⟩) x.sn x.sn) (.slice (some ⟨D3,0,none⟩) x.wn x.wn) (.slice (some ⟨D4,0,none⟩) x.hn x.hn) 41;have n2:=BoxC.new (w.alloc (oQ4 (some ⟨D1,0,none⟩) x.pn x.pn (some ⟨D2,0,none⟩) x.sn x.sn (some ⟨D3,0,none⟩) x.wn x.wn (some ⟨D4,0,none⟩) x.hn x.hn)) (.slice (some ⟨E1,0,none⟩) x.pn x.pn) (.slice (some ⟨E2,0,none⟩) x.sn x.sn) (.slice (some ⟨E3,0,none⟩) x.wn x.wn) (.slice (some ⟨E4,0,none⟩) x.hn x.hn) 41;simp only [World.size_alloc] at n2;exact ⟨n1.below (qad _ _),n2,((Below.refl _ _).alloc (Nat.le_refl _) _).alloc (by simp) _,by simp⟩
 go_wp2_with fail
 generalize (w.alloc (oQ4 (some ⟨D1,0,none⟩) x.pn x.pn (some ⟨D2,0,none⟩) x.sn x.sn (some ⟨D3,0,none⟩) x.wn x.wn (some ⟨D4,0,none⟩) x.hn x.hn)).alloc (oQ4 (some ⟨E1,0,none⟩) x.pn x.pn (some ⟨E2,0,none⟩) x.sn x.sn (some ⟨E3,0,none⟩) x.wn x.wn (some ⟨E4,0,none⟩) x.hn x.hn)=wA at *;refine (qm4 D1 h1 E1 g1 x.pn _ _ x.pL b1 c1 x.pH _ (SysIn.lens HS.out).1.1 (qc3 (SysIn.lens HS.out).1.2) (P1.out.below X0.2.2.1 P1.out.le) (P2.out.below X0.2.2.1 P2.out.le)).mono ?_;rintro e w1 ⟨rfl,b1'⟩;have X1:Hid (BoxC w1 w.heap.size (.slice (some ⟨D1,0,none⟩) x.pn x.pn) (.slice (some ⟨D2,0,none⟩) x.sn x.sn) (.slice (some ⟨D3,0,none⟩) x.wn x.wn) (.slice (some ⟨D4,0,none⟩) x.hn x.hn)/\BoxC w1 (w.heap.size+1) (.slice (some ⟨E1,0,none⟩) x.pn x.pn) (.slice (some ⟨E2,0,none⟩) x.sn x.sn) (.slice (some ⟨E3,0,none⟩) x.wn x.wn) (.slice (some ⟨E4,0,none⟩) x.hn x.hn)/\Below w.heap.size w w1/\w.heap.size+2<=w1.heap.size):=⟨X0.1.below b1',X0.2.1.below b1',X0.2.2.1.trans (b1'.mono X0.2.2.1.size),zO X0.2.2.2 b1'.size⟩
 have BE1:Hid (Below w.heap.size w w1):=X1.2.2.1;clear X0 b1';obtain ⟨⟨p0,p1,p2,p3⟩,⟨q0,q1,q2,q3⟩,-,le⟩:=X1.out;go_wp2_with fail
 clear p0 p1 p2 p3 q0 q1 q2 q3 le;refine (qku D2 h2 E2 g2 x.sn _ _ x.sS vs us _ (SysIn.lens HS.out).2.1.1 (SysIn.lensS HS.out) (S1.out.below BE1.out S1.out.le) (S2.out.below BE1.out S2.out.le)).mono ?_;rintro e w2 ⟨rfl,b2'⟩;have X2:Hid (BoxC w2 w.heap.size (.slice (some ⟨D1,0,none⟩) x.pn x.pn) (.slice (some ⟨D2,0,none⟩) x.sn x.sn) (.slice (some ⟨D3,0,none⟩) x.wn x.wn) (.slice (some ⟨D4,0,none⟩) x.hn x.hn)/\BoxC w2 (w.heap.size+1) (.slice (some ⟨E1,0,none⟩) x.pn x.pn) (.slice (some ⟨E2,0,none⟩) x.sn x.sn) (.slice (some ⟨E3,0,none⟩) x.wn x.wn) (.slice (some ⟨E4,0,none⟩) x.hn x.hn)/\Below w.heap.size w w2/\w.heap.size+2<=w2.heap.size):=⟨X1.1.below b2',X1.2.1.below b2',X1.2.2.1.trans (b2'.mono X1.2.2.1.size),zO X1.2.2.2 b2'.size⟩
 have BE2:Hid (Below w.heap.size w w2):=X2.2.2.1;clear X1 b2' BE1;obtain ⟨⟨p0,p1,p2,p3⟩,⟨q0,q1,q2,q3⟩,-,le⟩:=X2.out;go_wp2_with fail
 clear p0 p1 p2 p3 q0 q1 q2 q3 le;refine (qks D3 h3 E3 g3 x.wn _ _ x.wL b3 c3 x.wH _ (SysIn.lens HS.out).2.2.1.1 (qc3 (SysIn.lens HS.out).2.2.1.2) (W1.out.below BE2.out W1.out.le) (W2.out.below BE2.out W2.out.le)).mono ?_;rintro e w3 ⟨rfl,b3'⟩;have X3:Hid (BoxC w3 w.heap.size (.slice (some ⟨D1,0,none⟩) x.pn x.pn) (.slice (some ⟨D2,0,none⟩) x.sn x.sn) (.slice (some ⟨D3,0,none⟩) x.wn x.wn) (.slice (some ⟨D4,0,none⟩) x.hn x.hn)/\BoxC w3 (w.heap.size+1) (.slice (some ⟨E1,0,none⟩) x.pn x.pn) (.slice (some ⟨E2,0,none⟩) x.sn x.sn) (.slice (some ⟨E3,0,none⟩) x.wn x.wn) (.slice (some ⟨E4,0,none⟩) x.hn x.hn)/\Below w.heap.size w w3/\w.heap.size+2<=w3.heap.size):=⟨X2.1.below b3',X2.2.1.below b3',X2.2.2.1.trans (b3'.mono X2.2.2.1.size),zO X2.2.2.2 b3'.size⟩
 have BE3:Hid (Below w.heap.size w w3):=X3.2.2.1;clear X2 b3' BE2;obtain ⟨⟨p0,p1,p2,p3⟩,⟨q0,q1,q2,q3⟩,-,le⟩:=X3.out;go_wp2_with fail
 clear p0 p1 p2 p3 q0 q1 q2 q3 le;refine (qi9 D4 u1 E4 u2 x.hn _ _ x.hL b4 c4 x.hH _ (SysIn.lens HS.out).2.2.2.1 (qc3 (SysIn.lens HS.out).2.2.2.2) (I1.out.below BE3.out I1.out.le) (I2.out.below BE3.out I2.out.le)).mono ?_;rintro e w4 ⟨rfl,b4'⟩;have X4:Hid (BoxC w4 w.heap.size (.slice (some ⟨D1,0,none⟩) x.pn x.pn) (.slice (some ⟨D2,0,none⟩) x.sn x.sn) (.slice (some ⟨D3,0,none⟩) x.wn x.wn) (.slice (some ⟨D4,0,none⟩) x.hn x.hn)/\BoxC w4 (w.heap.size+1) (.slice (some ⟨E1,0,none⟩) x.pn x.pn) (.slice (some ⟨E2,0,none⟩) x.sn x.sn) (.slice (some ⟨E3,0,none⟩) x.wn x.wn) (.slice (some ⟨E4,0,none⟩) x.hn x.hn)/\Below w.heap.size w w4/\w.heap.size+2<=w4.heap.size):=⟨X3.1.below b4',X3.2.1.below b4',X3.2.2.1.trans (b4'.mono X3.2.2.1.size),zO X3.2.2.2 b4'.size⟩
 have BE4:Hid (Below w.heap.size w w4):=X4.2.2.1;clear X3 b4' BE3;go_wp2;go_ret;exact ⟨rfl,BE4.out⟩
structure MkY (w wx:World) (lo hi D1 D2 D3 D4:Nat) (x:SysIn):Prop where
 tch:qaa (fun b=>lo<=b/\b<hi) w wx
 bx:BoxC wx w.heap.size (.slice (some ⟨D1,0,none⟩) x.pn x.pn) (.slice (some ⟨D2,0,none⟩) x.sn x.sn) (.slice (some ⟨D3,0,none⟩) x.wn x.wn) (.slice (some ⟨D4,0,none⟩) x.hn x.hn)
 lt:w.heap.size<wx.heap.size
theorem MkY.step {w wx w':World} {lo hi D1 D2 D3 D4:Nat} {x:SysIn} (h:MkY w wx lo hi D1 D2 D3 D4 x) (hh:hi<=w.heap.size) {P:Nat->Prop} (ht:qaa P wx w') (hp:∀ b,P b->lo<=b/\b<hi):MkY w w' lo hi D1 D2 D3 D4 x:=by
 refine ⟨h.tch.trans (ht.mono hp),?_,zL h.lt ht.size⟩;obtain ⟨h0,h1,h2,h3⟩:=h.bx;have hc:∀ i,w'.cell? ⟨w.heap.size,i,none⟩=wx.cell? ⟨w.heap.size,i,none⟩:=fun i=>ht.cell h.lt (fun e=>by have:=hp _ e;omega) i;exact ⟨(hc _).trans h0,(hc _).trans h1,(hc _).trans h2,(hc _).trans h3⟩
variable {z:Bool}
theorem qcu {t e:TypeId} {bytes:Nat} (K:Kind t e 1 bytes) (n:Nat) (hn:n<=1048576):∃ cs:Array Value,cs.size=n/\∀ w:World,(Instr.makeSlice t (.int .i64 0) (.int .i64 (n:Int))).run Tryz.prog w=.ok (.slice (some ⟨w.heap.size,0,none⟩) 0 n) (w.alloc (.cells cs e)):=by
 obtain ⟨i,z,hi,hz,hs,hb,hzs⟩:=K.inf;refine ⟨madeCells z.cells n,size_madeCells _ _,fun w=>?_⟩
 have hby:i.bytes*n<=281474976710656:=by
  rw [hb];exact zO (Nat.mul_le_mul K.sml hn) (by omega)
 have hby':(i.bytes:Int)*(n:Int)<=281474976710656:=by rw [<- Int.natCast_mul];exact Int.ofNat_le.2 hby
 have h:=run_make (P:=Tryz.prog) w t e i z K.und hi hz .i64 .i64 0 (n:Int) (by omega) (by omega) hby' (by omega);rw [hs,Nat.mul_one,Int.toNat_natCast] at h;exact h
theorem LL.made (e:TypeId) (sz:Nat) (E:TypeId) (w:World) (cs:Array Value) (n:Nat) (hn:n<=1048576) (hc:cs.size=n) (P:Nat->Prop) (hP:P w.heap.size) (u:Nat->Value) (L:Nat->Nat) (c:Nat->List Value):LL z e sz E (w.alloc (.cells cs E)) P (.slice (some ⟨w.heap.size,0,none⟩) 0 n) 0 u L c:=
 ⟨World.ownsRow_made (base:=0) (e:=E) (size:=1) w cs n (Nat.zero_le _) (by unfold maxLen;omega) (by rw [hc,Nat.mul_one]),fun i hi=>(by omega),fun k hk=>(by cases hk;exact hP),fun i hi=>(by omega),fun i hi=>(by omega),fun i j hi=>(by omega),fun i hi=>(by omega)⟩
theorem qmy (b off n cap:Nat) (H:Nat->I5) (w:World) (hn:n<=1048576) (hI:Src w (some ⟨b,off,none⟩) (fI H n)):
  Calls Tryz.prog 194 #[.slice (some ⟨b,off,none⟩) n cap] w fun e w'=>∃ a c,e=.returned (.slice a n c)/\w'.ownsRow w.heap.size 184 5 (.slice a n c) n (fI H n)/\Value.slice a n c≠.slice none 0 0/\Below w.heap.size w w':=by
 have HI:Hid (Src w (some ⟨b,off,none⟩) (fI H n)):=hI;have he:∀ wx:World,(binOp .eql 144 (.slice (some ⟨b,off,none⟩) n cap) (.slice none 0 0)).run Tryz.prog wx=.ok (.bool false) wx:=fun wx=>by kernel_rfl
 clear hI
 go_enter Tryz.func194,Tryz.ntmps194
 go_wp2_with (at_builtin;refine qa9 kndI w rfl rfl _ _ rfl (some ⟨b,off,none⟩) n cap (fI H n) rfl rfl (qxi _ _) HI.out (qxj _ _) (by omega) ?_;intro v4 w4 o4 b4 n4;obtain ⟨a4,c4,rfl⟩:=zT o4;have F4:Hid (w4.ownsRow w.heap.size 184 5 (.slice a4 n c4) n (fI H n)/\Value.slice a4 n c4≠.slice none 0 0/\Below w.heap.size w w4):=⟨o4,n4,b4⟩;clear o4 b4 n4)
 go_ret;exact ⟨_,_,rfl,F4.out⟩
theorem qhh (a0:Option Addr) (n cap:Nat) (A:Nat->Option Addr) (L C:Nat->Nat) (H:Nat->Nat->I5) (w:World) (hn:n<=1048576) (hL:∀ i,i<n->L i<=1048576) (hr:RowS w a0 n fun i=>.slice (A i) (L i) (C i)) (hI:∀ i,i<n->∃ b off,A i=some ⟨b,off,none⟩/\Src w (A i) (fI (H i) (L i))):
  Calls Tryz.prog 140 #[.slice a0 n cap] w fun e w'=>∃ v u,e=.returned v/\LI z w' (fun k=>w.heap.size<=k/\k<w'.heap.size) v n u L H/\Below w.heap.size w w':=by
 have hn':(n:Int)<=1048576:=by omega
 obtain ⟨cs,hcs,hmk⟩:=qcu qya n hn;have HCS:Hid (cs.size=n):=hcs;have HR:Hid (RowS w a0 n fun i=>.slice (A i) (L i) (C i)):=hr;have HI:Hid (∀ i,i<n->∃ b off,A i=some ⟨b,off,none⟩/\Src w (A i) (fI (H i) (L i))):=hI;have HL:Hid (∀ i,i<n->L i<=1048576):=hL;clear hr hI hL hcs
 go_enter Tryz.func140,Tryz.ntmps140
 go_wp2_with fail
 clear hmk
 go_loopw [3,11] (fun v i wr=>∃ k:Nat,k<=n/\i=.int .i64 k/\Hid ((∃ u,LI z wr (fun b=>w.heap.size<=b/\b<wr.heap.size) v k u L H)/\Below w.heap.size w wr)) (fun _ i _=>n - (intOf i).toNat)
 case atStart=>exact ⟨0,Nat.zero_le _,rfl,⟨fun _=>.slice none 0 0,LL.made _ _ _ w _ n hn HCS.out _ (by simp) _ _ _⟩,zP _ _⟩
 case round=>
  obtain ⟨k,hk,rfl,HZ⟩:=hrel;by_cases hlt:k<n
  ·have hlt':(k:Int)<(n:Int):=by omega
   obtain ⟨b,off,rfl,ck⟩:=(HR.out.below HZ.2).at hlt;have hbl:b<wr.heap.size:=zJ wr _ ck;obtain ⟨b2,o2,ea,hsr⟩:=HI.out k hlt;rw [ea] at hsr ck;have HS:Hid (Src wr (some ⟨b2,o2,none⟩) (fI (H k) (L k))):=hsr.below HZ.2;have HLk:Hid (L k<=1048576):=HL.out k hlt;have hk2:Hid (k<=2000000):=by show k<=2000000;omega
   obtain ⟨⟨u,oz⟩,bz⟩:=HZ.out;have OZ:Hid (LI z wr (fun b=>w.heap.size<=b/\b<wr.heap.size) u3 k u L H):=oz;have BZ:Hid (Below w.heap.size w wr):=bz;clear oz bz HZ hsr ea;go_wp2_with fail
   refine (qmy b2 o2 (L k) (C k) (H k) wr HLk.out HS.out).mono ?_;rintro e w4 ⟨a4,c4,rfl,o4,n4,b4⟩;have F4:Hid (w4.ownsRow wr.heap.size 184 5 (.slice a4 (L k) c4) (L k) (fI (H k) (L k))/\Below wr.heap.size wr w4/\Value.slice a4 (L k) c4≠.slice none 0 0):=⟨o4,b4,n4⟩
   clear o4 b4 n4 ck hbl;go_wp2_with (at_builtin;refine qat qya w4 rfl rfl _ _ rfl 0 u3 k _ rfl (OZ.out.below F4.2.1).row #[.slice a4 (L k) c4] rfl rfl (by intro u hu;simp at hu;subst hu;rfl) hk2.out (Nat.zero_le _) ?_;intro v5 w5 o5 g5 q5 n5;have F5:Hid (LI z w5 (fun b=>w.heap.size<=b/\b<w5.heap.size) v5 (k+1) (fun j=>if j=k then .slice a4 (L k) c4 else u j) L H/\Below w.heap.size w w5):=⟨OZ.out.push F4.2.1 F4.1 (fun _=>F4.2.2) o5 g5 q5 (fun j hj _=>⟨hj.1,zL hj.2 (zO F4.2.1.size g5.size)⟩) (fun j hj hj'=>⟨zO BZ.out.size hj,hj'⟩),Below.grown (BZ.out.trans (F4.2.1.mono BZ.out.size)) g5 (zO BZ.out.size F4.2.1.size) (fun j hj=>(OZ.out.rb j hj).1)⟩;clear o5 g5 q5 n5)
   go_roundw
   case rel=>exact ⟨k+1,by omega,by go_num,⟨_,F5.1⟩,F5.2⟩
   case measure=>simp [intOf];omega
  ·have hkn:k=n:=by omega
   subst hkn;go_wp2;go_ret;obtain ⟨⟨u,oz⟩,bz⟩:=HZ.out;exact ⟨_,u,rfl,oz,bz⟩
theorem qkl (b off n cap:Nat) (H:Nat->I2) (w:World) (hn:n<=1048576) (hI:Src w (some ⟨b,off,none⟩) (fT H n)):
  Calls Tryz.prog 103 #[.slice (some ⟨b,off,none⟩) n cap] w fun e w'=>∃ a c,e=.returned (.slice a n c)/\w'.ownsRow w.heap.size 74 2 (.slice a n c) n (fT H n)/\Value.slice a n c≠.slice none 0 0/\Below w.heap.size w w':=by
 have HI:Hid (Src w (some ⟨b,off,none⟩) (fT H n)):=hI;have he:∀ wx:World,(binOp .eql 72 (.slice (some ⟨b,off,none⟩) n cap) (.slice none 0 0)).run Tryz.prog wx=.ok (.bool false) wx:=fun wx=>by kernel_rfl
 clear hI
 go_enter Tryz.func103,Tryz.ntmps103
 go_wp2_with (at_builtin;refine qa9 kndT w rfl rfl _ _ rfl (some ⟨b,off,none⟩) n cap (fT H n) rfl rfl (quh _ _) HI.out (qui _ _) (by omega) ?_;intro v4 w4 o4 b4 n4;obtain ⟨a4,c4,rfl⟩:=zT o4;have F4:Hid (w4.ownsRow w.heap.size 74 2 (.slice a4 n c4) n (fT H n)/\Value.slice a4 n c4≠.slice none 0 0/\Below w.heap.size w w4):=⟨o4,n4,b4⟩;clear o4 b4 n4)
 go_ret;exact ⟨_,_,rfl,F4.out⟩
theorem qi6 (w:World):
  Calls Tryz.prog 103 #[.slice none 0 0] w fun e w'=>e=.returned (.slice none 0 0)/\Below w.heap.size w w':=by
 have he:∀ wx:World,(binOp .eql 72 (.slice none 0 0) (.slice none 0 0)).run Tryz.prog wx=.ok (.bool true) wx:=fun wx=>by kernel_rfl
 go_enter Tryz.func103,Tryz.ntmps103
 go_wp2;go_ret;exact ⟨rfl,Below.refl _ _⟩
theorem qgb (a0:Option Addr) (n cap:Nat) (A:Nat->Option Addr) (L C:Nat->Nat) (H:Nat->Nat->I2) (w:World) (hn:n<=1048576) (hL:∀ i,i<n->L i<=1048576) (hr:RowS w a0 n fun i=>.slice (A i) (L i) (C i)) (hI:∀ i,i<n->(∃ b off,A i=some ⟨b,off,none⟩/\Src w (A i) (fT (H i) (L i)))\/(z=false/\A i=none/\L i=0/\C i=0)):
  Calls Tryz.prog 141 #[.slice a0 n cap] w fun e w'=>∃ v u,e=.returned v/\LT z w' (fun k=>w.heap.size<=k/\k<w'.heap.size) v n u L H/\Below w.heap.size w w':=by
 have hn':(n:Int)<=1048576:=by omega
 obtain ⟨cs,hcs,hmk⟩:=qcu qwl n hn;have HCS:Hid (cs.size=n):=hcs;have HR:Hid (RowS w a0 n fun i=>.slice (A i) (L i) (C i)):=hr;have HI:Hid (∀ i,i<n->(∃ b off,A i=some ⟨b,off,none⟩/\Src w (A i) (fT (H i) (L i)))\/(z=false/\A i=none/\L i=0/\C i=0)):=hI;have HL:Hid (∀ i,i<n->L i<=1048576):=hL;clear hr hI hL hcs
 go_enter Tryz.func141,Tryz.ntmps141
 go_wp2_with fail
 clear hmk
 go_loopw [3,11] (fun v i wr=>∃ k:Nat,k<=n/\i=.int .i64 k/\Hid ((∃ u,LT z wr (fun b=>w.heap.size<=b/\b<wr.heap.size) v k u L H)/\Below w.heap.size w wr)) (fun _ i _=>n - (intOf i).toNat)
 case atStart=>exact ⟨0,Nat.zero_le _,rfl,⟨fun _=>.slice none 0 0,LL.made _ _ _ w _ n hn HCS.out _ (by simp) _ _ _⟩,zP _ _⟩
 case round=>
  obtain ⟨k,hk,rfl,HZ⟩:=hrel;by_cases hlt:k<n
  ·have hlt':(k:Int)<(n:Int):=by omega
   obtain ⟨b,off,rfl,ck⟩:=(HR.out.below HZ.2).at hlt;have hbl:b<wr.heap.size:=zJ wr _ ck
   rcases HI.out k hlt with ⟨b2,o2,ea,hsr⟩ | ⟨hz,ea,eL,eC⟩
   ·rw [ea] at hsr ck
    have HS:Hid (Src wr (some ⟨b2,o2,none⟩) (fT (H k) (L k))):=hsr.below HZ.2;have HLk:Hid (L k<=1048576):=HL.out k hlt;have hk2:Hid (k<=2000000):=by show k<=2000000;omega
    obtain ⟨⟨u,oz⟩,bz⟩:=HZ.out;have OZ:Hid (LT z wr (fun b=>w.heap.size<=b/\b<wr.heap.size) u3 k u L H):=oz;have BZ:Hid (Below w.heap.size w wr):=bz;clear oz bz HZ hsr ea;go_wp2_with fail
    refine (qkl b2 o2 (L k) (C k) (H k) wr HLk.out HS.out).mono ?_;rintro e w4 ⟨a4,c4,rfl,o4,n4,b4⟩;have F4:Hid (w4.ownsRow wr.heap.size 74 2 (.slice a4 (L k) c4) (L k) (fT (H k) (L k))/\Below wr.heap.size wr w4/\Value.slice a4 (L k) c4≠.slice none 0 0):=⟨o4,b4,n4⟩
    clear o4 b4 n4 ck hbl;go_wp2_with (at_builtin;refine qat qwl w4 rfl rfl _ _ rfl 0 u3 k _ rfl (OZ.out.below F4.2.1).row #[.slice a4 (L k) c4] rfl rfl (by intro u hu;simp at hu;subst hu;rfl) hk2.out (Nat.zero_le _) ?_;intro v5 w5 o5 g5 q5 n5;have F5:Hid (LT z w5 (fun b=>w.heap.size<=b/\b<w5.heap.size) v5 (k+1) (fun j=>if j=k then .slice a4 (L k) c4 else u j) L H/\Below w.heap.size w w5):=⟨OZ.out.push F4.2.1 F4.1 (fun _=>F4.2.2) o5 g5 q5 (fun j hj _=>⟨hj.1,zL hj.2 (zO F4.2.1.size g5.size)⟩) (fun j hj hj'=>⟨zO BZ.out.size hj,hj'⟩),Below.grown (BZ.out.trans (F4.2.1.mono BZ.out.size)) g5 (zO BZ.out.size F4.2.1.size) (fun j hj=>(OZ.out.rb j hj).1)⟩;clear o5 g5 q5 n5)
    go_roundw
    case rel=>exact ⟨k+1,by omega,by go_num,⟨_,F5.1⟩,F5.2⟩
    case measure=>simp [intOf];omega
   ·rw [ea,eL,eC] at ck
    have HNz:Hid (¬ Nz z 74):=fun h=>by
     rcases h with h | h
     ·rw [hz] at h
      cases h
     ·exact absurd h (by decide)
    have hk2:Hid (k<=2000000):=by show k<=2000000;omega
    obtain ⟨⟨u,oz⟩,bz⟩:=HZ.out;have OZ:Hid (LT z wr (fun b=>w.heap.size<=b/\b<wr.heap.size) u3 k u L H):=oz;have BZ:Hid (Below w.heap.size w wr):=bz;have HE:Hid (L k=0):=eL;clear oz bz HZ ea eL eC hz;go_wp2_with fail
    refine (qi6 wr).mono ?_;rintro e w4 ⟨rfl,b4⟩;have F4:Hid (w4.ownsRow wr.heap.size 74 2 (.slice none 0 0) (L k) (fT (H k) (L k))/\Below wr.heap.size wr w4):=⟨by rw [HE.out];exact World.ownsRow_nil _ _ _ _,b4⟩
    clear b4 ck hbl;go_wp2_with (at_builtin;refine qat qwl w4 rfl rfl _ _ rfl 0 u3 k _ rfl (OZ.out.below F4.2).row #[.slice none 0 0] rfl rfl (by intro u hu;simp at hu;subst hu;rfl) hk2.out (Nat.zero_le _) ?_;intro v5 w5 o5 g5 q5 n5;have F5:Hid (LT z w5 (fun b=>w.heap.size<=b/\b<w5.heap.size) v5 (k+1) (fun j=>if j=k then .slice none 0 0 else u j) L H/\Below w.heap.size w w5):=⟨OZ.out.push F4.2 F4.1 (fun h=>absurd h HNz.out) o5 g5 q5 (fun j hj _=>⟨hj.1,zL hj.2 (zO F4.2.size g5.size)⟩) (fun j hj hj'=>⟨zO BZ.out.size hj,hj'⟩),Below.grown (BZ.out.trans (F4.2.mono BZ.out.size)) g5 (zO BZ.out.size F4.2.size) (fun j hj=>(OZ.out.rb j hj).1)⟩;clear o5 g5 q5 n5)
    go_roundw
    case rel=>exact ⟨k+1,by omega,by go_num,⟨_,F5.1⟩,F5.2⟩
    case measure=>simp [intOf];omega
  ·have hkn:k=n:=by omega
   subst hkn;go_wp2;go_ret;obtain ⟨⟨u,oz⟩,bz⟩:=HZ.out;exact ⟨_,u,rfl,oz,bz⟩
theorem qi5 (b off n cap:Nat) (H:Nat->E3) (w:World) (hn:n<=1048576) (hI:Src w (some ⟨b,off,none⟩) (fE H n)):
  Calls Tryz.prog 195 #[.slice (some ⟨b,off,none⟩) n cap] w fun e w'=>∃ a c,e=.returned (.slice a n c)/\w'.ownsRow w.heap.size 86 3 (.slice a n c) n (fE H n)/\Value.slice a n c≠.slice none 0 0/\Below w.heap.size w w':=by
 have HI:Hid (Src w (some ⟨b,off,none⟩) (fE H n)):=hI;have he:∀ wx:World,(binOp .eql 87 (.slice (some ⟨b,off,none⟩) n cap) (.slice none 0 0)).run Tryz.prog wx=.ok (.bool false) wx:=fun wx=>by kernel_rfl
 clear hI
 go_enter Tryz.func195,Tryz.ntmps195
 go_wp2_with (at_builtin;refine qa9 kndE w rfl rfl _ _ rfl (some ⟨b,off,none⟩) n cap (fE H n) rfl rfl (qxg _ _) HI.out (qxh _ _) (by omega) ?_;intro v4 w4 o4 b4 n4;obtain ⟨a4,c4,rfl⟩:=zT o4;have F4:Hid (w4.ownsRow w.heap.size 86 3 (.slice a4 n c4) n (fE H n)/\Value.slice a4 n c4≠.slice none 0 0/\Below w.heap.size w w4):=⟨o4,n4,b4⟩;clear o4 b4 n4)
 go_ret;exact ⟨_,_,rfl,F4.out⟩
theorem qie (w:World):
  Calls Tryz.prog 195 #[.slice none 0 0] w fun e w'=>e=.returned (.slice none 0 0)/\Below w.heap.size w w':=by
 have he:∀ wx:World,(binOp .eql 87 (.slice none 0 0) (.slice none 0 0)).run Tryz.prog wx=.ok (.bool true) wx:=fun wx=>by kernel_rfl
 go_enter Tryz.func195,Tryz.ntmps195
 go_wp2;go_ret;exact ⟨rfl,Below.refl _ _⟩
theorem qff (a0:Option Addr) (n cap:Nat) (A:Nat->Option Addr) (L C:Nat->Nat) (H:Nat->Nat->E3) (w:World) (hn:n<=1048576) (hL:∀ i,i<n->L i<=1048576) (hr:RowS w a0 n fun i=>.slice (A i) (L i) (C i)) (hI:∀ i,i<n->(∃ b off,A i=some ⟨b,off,none⟩/\Src w (A i) (fE (H i) (L i)))\/(z=false/\A i=none/\L i=0/\C i=0)):
  Calls Tryz.prog 142 #[.slice a0 n cap] w fun e w'=>∃ v u,e=.returned v/\LE z w' (fun k=>w.heap.size<=k/\k<w'.heap.size) v n u L H/\Below w.heap.size w w':=by
 have hn':(n:Int)<=1048576:=by omega
 obtain ⟨cs,hcs,hmk⟩:=qcu qwk n hn;have HCS:Hid (cs.size=n):=hcs;have HR:Hid (RowS w a0 n fun i=>.slice (A i) (L i) (C i)):=hr;have HI:Hid (∀ i,i<n->(∃ b off,A i=some ⟨b,off,none⟩/\Src w (A i) (fE (H i) (L i)))\/(z=false/\A i=none/\L i=0/\C i=0)):=hI;have HL:Hid (∀ i,i<n->L i<=1048576):=hL;clear hr hI hL hcs
 go_enter Tryz.func142,Tryz.ntmps142
 go_wp2_with fail
 clear hmk
 go_loopw [3,11] (fun v i wr=>∃ k:Nat,k<=n/\i=.int .i64 k/\Hid ((∃ u,LE z wr (fun b=>w.heap.size<=b/\b<wr.heap.size) v k u L H)/\Below w.heap.size w wr)) (fun _ i _=>n - (intOf i).toNat)
 case atStart=>exact ⟨0,Nat.zero_le _,rfl,⟨fun _=>.slice none 0 0,LL.made _ _ _ w _ n hn HCS.out _ (by simp) _ _ _⟩,zP _ _⟩
 case round=>
  obtain ⟨k,hk,rfl,HZ⟩:=hrel;by_cases hlt:k<n
  ·have hlt':(k:Int)<(n:Int):=by omega
   obtain ⟨b,off,rfl,ck⟩:=(HR.out.below HZ.2).at hlt;have hbl:b<wr.heap.size:=zJ wr _ ck
   rcases HI.out k hlt with ⟨b2,o2,ea,hsr⟩ | ⟨hz,ea,eL,eC⟩
   ·rw [ea] at hsr ck
    have HS:Hid (Src wr (some ⟨b2,o2,none⟩) (fE (H k) (L k))):=hsr.below HZ.2;have HLk:Hid (L k<=1048576):=HL.out k hlt;have hk2:Hid (k<=2000000):=by show k<=2000000;omega
    obtain ⟨⟨u,oz⟩,bz⟩:=HZ.out;have OZ:Hid (LE z wr (fun b=>w.heap.size<=b/\b<wr.heap.size) u3 k u L H):=oz;have BZ:Hid (Below w.heap.size w wr):=bz;clear oz bz HZ hsr ea;go_wp2_with fail
    refine (qi5 b2 o2 (L k) (C k) (H k) wr HLk.out HS.out).mono ?_;rintro e w4 ⟨a4,c4,rfl,o4,n4,b4⟩;have F4:Hid (w4.ownsRow wr.heap.size 86 3 (.slice a4 (L k) c4) (L k) (fE (H k) (L k))/\Below wr.heap.size wr w4/\Value.slice a4 (L k) c4≠.slice none 0 0):=⟨o4,b4,n4⟩
    clear o4 b4 n4 ck hbl;go_wp2_with (at_builtin;refine qat qwk w4 rfl rfl _ _ rfl 0 u3 k _ rfl (OZ.out.below F4.2.1).row #[.slice a4 (L k) c4] rfl rfl (by intro u hu;simp at hu;subst hu;rfl) hk2.out (Nat.zero_le _) ?_;intro v5 w5 o5 g5 q5 n5;have F5:Hid (LE z w5 (fun b=>w.heap.size<=b/\b<w5.heap.size) v5 (k+1) (fun j=>if j=k then .slice a4 (L k) c4 else u j) L H/\Below w.heap.size w w5):=⟨OZ.out.push F4.2.1 F4.1 (fun _=>F4.2.2) o5 g5 q5 (fun j hj _=>⟨hj.1,zL hj.2 (zO F4.2.1.size g5.size)⟩) (fun j hj hj'=>⟨zO BZ.out.size hj,hj'⟩),Below.grown (BZ.out.trans (F4.2.1.mono BZ.out.size)) g5 (zO BZ.out.size F4.2.1.size) (fun j hj=>(OZ.out.rb j hj).1)⟩;clear o5 g5 q5 n5)
    go_roundw
    case rel=>exact ⟨k+1,by omega,by go_num,⟨_,F5.1⟩,F5.2⟩
    case measure=>simp [intOf];omega
   ·rw [ea,eL,eC] at ck
    have HNz:Hid (¬ Nz z 86):=fun h=>by
     rcases h with h | h
     ·rw [hz] at h
      cases h
     ·exact absurd h (by decide)
    have hk2:Hid (k<=2000000):=by show k<=2000000;omega
    obtain ⟨⟨u,oz⟩,bz⟩:=HZ.out;have OZ:Hid (LE z wr (fun b=>w.heap.size<=b/\b<wr.heap.size) u3 k u L H):=oz;have BZ:Hid (Below w.heap.size w wr):=bz;have HE:Hid (L k=0):=eL;clear oz bz HZ ea eL eC hz;go_wp2_with fail
    refine (qie wr).mono ?_;rintro e w4 ⟨rfl,b4⟩;have F4:Hid (w4.ownsRow wr.heap.size 86 3 (.slice none 0 0) (L k) (fE (H k) (L k))/\Below wr.heap.size wr w4):=⟨by rw [HE.out];exact World.ownsRow_nil _ _ _ _,b4⟩
    clear b4 ck hbl;go_wp2_with (at_builtin;refine qat qwk w4 rfl rfl _ _ rfl 0 u3 k _ rfl (OZ.out.below F4.2).row #[.slice none 0 0] rfl rfl (by intro u hu;simp at hu;subst hu;rfl) hk2.out (Nat.zero_le _) ?_;intro v5 w5 o5 g5 q5 n5;have F5:Hid (LE z w5 (fun b=>w.heap.size<=b/\b<w5.heap.size) v5 (k+1) (fun j=>if j=k then .slice none 0 0 else u j) L H/\Below w.heap.size w w5):=⟨OZ.out.push F4.2 F4.1 (fun h=>absurd h HNz.out) o5 g5 q5 (fun j hj _=>⟨hj.1,zL hj.2 (zO F4.2.size g5.size)⟩) (fun j hj hj'=>⟨zO BZ.out.size hj,hj'⟩),Below.grown (BZ.out.trans (F4.2.mono BZ.out.size)) g5 (zO BZ.out.size F4.2.size) (fun j hj=>(OZ.out.rb j hj).1)⟩;clear o5 g5 q5 n5)
    go_roundw
    case rel=>exact ⟨k+1,by omega,by go_num,⟨_,F5.1⟩,F5.2⟩
    case measure=>simp [intOf];omega
  ·have hkn:k=n:=by omega
   subst hkn;go_wp2;go_ret;obtain ⟨⟨u,oz⟩,bz⟩:=HZ.out;exact ⟨_,u,rfl,oz,bz⟩
variable {z:Bool}
structure SysIn.Nn (x:SysIn) (z:Bool):Prop where
 w:∀ i,i<x.wn->(∃ b off,x.wA i=some ⟨b,off,none⟩)\/(z=false/\x.wA i=none/\x.wL i=0/\x.wC i=0)
 h:∀ i,i<x.hn->(∃ b off,x.hA i=some ⟨b,off,none⟩)\/(z=false/\x.hA i=none/\x.hL i=0/\x.hC i=0)
theorem qiv (n:Nat) (hn:n<=1048576):∃ cs:Array Value,cs.size=n*4/\∀ w:World,(Instr.makeSlice 37 (.int .i64 0) (.int .i64 (n:Int))).run Tryz.prog w=.ok (.slice (some ⟨w.heap.size,0,none⟩) 0 n) (w.alloc (.cells cs 142)):=by
 obtain ⟨i,z,hi,hz,hs,hb,hzs⟩:=kndS.inf;refine ⟨madeCells z.cells (n*4),size_madeCells _ _,fun w=>?_⟩
 have hby:i.bytes*n<=281474976710656:=by
  rw [hb];omega
 have hby':(i.bytes:Int)*(n:Int)<=281474976710656:=by rw [<- Int.natCast_mul];exact Int.ofNat_le.2 hby
 have h:=run_make (P:=Tryz.prog) w 37 142 i z kndS.und hi hz .i64 .i64 0 (n:Int) (by omega) (by omega) hby' (by omega);rw [hs,Int.toNat_natCast] at h;exact h
theorem LS.made (w:World) (cs:Array Value) (n:Nat) (hn:n<=1048576) (hc:cs.size=n*4) (P:Nat->Prop) (hP:P w.heap.size) (vs:Nat->Value) (S:Nat->S4) {N:Nat} (hN:N=w.heap.size):LS (w.alloc (.cells cs 142)) P (.slice (some ⟨N,0,none⟩) 0 n) 0 vs S:=by
 subst hN;exact ⟨World.ownsRow_made (base:=0) (e:=142) (size:=4) w cs n (Nat.zero_le _) (by unfold maxLen;omega) hc,fun i hi=>(by omega),fun k hk=>(by cases hk;exact hP),fun i hi=>(by omega),fun i hi=>(by omega),fun i j hi=>(by omega)⟩
theorem OwnS.four {B m1 m2 m3 m4:Nat} {w1 w2 w3 w4 wf:World} {y:Sy} {vp vs vw vh:Value} {up us uw uh:Nat->Value} (h1:m1<=w1.heap.size) (h2:w1.heap.size<=m2) (h3:w2.heap.size<=m3) (h4:w3.heap.size<=m4) (hB:B<=m1)
  (o1:LS w1 (fun k=>m1<=k/\k<w1.heap.size) vs y.sn us y.sS) (o2:LI z w2 (fun k=>m2<=k/\k<w2.heap.size) vp y.pn up y.pL y.pH) (o3:LT z w3 (fun k=>m3<=k/\k<w3.heap.size) vw y.wn uw y.wL y.wH) (o4:LE z w4 (fun k=>m4<=k/\k<w4.heap.size) vh y.hn uh y.hL y.hH)
  (b2:Below w1.heap.size w1 w2) (b3:Below w2.heap.size w2 w3) (b4:Below w3.heap.size w3 w4) (hf:∀ k,m1<=k->k<w4.heap.size->wf.heap[k]? = w4.heap[k]?):
  ∃ c,OwnS z wf B c y vp vs vw vh up us uw uh:=by
 have z2:=b2.size;have z3:=b3.size;have z4:=b4.size;refine ⟨fun k=>if k<w1.heap.size then 2 else if k<w2.heap.size then 1 else if k<w3.heap.size then 3 else 4,?_,?_,?_,?_⟩
 ·refine (o2.keep (w':=wf) fun k hk hl=>(hf k (by omega) (by omega)).trans ((b4.block k (by omega)).trans (b3.block k hl))).mono fun k hk _=>⟨by omega,?_⟩
  show (if k<w1.heap.size then 2 else if k<w2.heap.size then 1 else if k<w3.heap.size then 3 else 4)=1;rw [if_neg (by omega),if_pos (by omega)]
 ·refine (o1.keep (w':=wf) fun k hk hl=>(hf k (by omega) (by omega)).trans ((b4.block k (by omega)).trans ((b3.block k (by omega)).trans (b2.block k hl)))).mono fun k hk _=>⟨by omega,?_⟩
  show (if k<w1.heap.size then 2 else if k<w2.heap.size then 1 else if k<w3.heap.size then 3 else 4)=2;rw [if_pos (by omega)]
 ·refine (o3.keep (w':=wf) fun k hk hl=>(hf k (by omega) (by omega)).trans (b4.block k hl)).mono fun k hk _=>⟨by omega,?_⟩
  show (if k<w1.heap.size then 2 else if k<w2.heap.size then 1 else if k<w3.heap.size then 3 else 4)=3;rw [if_neg (by omega),if_neg (by omega),if_pos (by omega)]
 ·refine (o4.keep (w':=wf) fun k hk hl=>hf k (by omega) hl).mono fun k hk _=>⟨by omega,?_⟩
  show (if k<w1.heap.size then 2 else if k<w2.heap.size then 1 else if k<w3.heap.size then 3 else 4)=4;rw [if_neg (by omega),if_neg (by omega),if_neg (by omega)]
theorem qpk (x:SysIn) (w:World) (hG:SysG w x) (hL:x.Len) (hN:x.Nn z):
  Calls Tryz.prog 73 #[x.v] w fun e w'=>∃ v,e=.returned v/\qbf z w' w.heap.size x.y v/\Below w.heap.size w w':=by
 have HG:Hid (SysG w x):=hG;have HL:Hid x.Len:=hL;have hsn':(x.sn:Int)<=1048576:=by have:=hL.s.1;omega
 obtain ⟨cs,hcs,hmk⟩:=qiv x.sn hL.s.1;have HCS:Hid (cs.size=x.sn*4):=hcs;have BW:Hid (Below w.heap.size w ((w.alloc (oQ4 x.pa x.pn x.pc x.sa x.sn x.sc x.wa x.wn x.wc x.ha x.hn x.hc)).alloc (zQ2))):=(zP _ _).trans ((zP _ _).mono (by simp));have NB:Hid (BoxC ((w.alloc (oQ4 x.pa x.pn x.pc x.sa x.sn x.sc x.wa x.wn x.wc x.ha x.hn x.hc)).alloc (zQ2)) w.heap.size (.slice x.pa x.pn x.pc) (.slice x.sa x.sn x.sc) (.slice x.wa x.wn x.wc) (.slice x.ha x.hn x.hc)):=(BoxC.new w _ _ _ _ _).below (zP _ _);have RB:Hid (BoxC ((w.alloc (oQ4 x.pa x.pn x.pc x.sa x.sn x.sc x.wa x.wn x.wc x.ha x.hn x.hc)).alloc (zQ2)) (w.heap.size+1) (.slice none 0 0) (.slice none 0 0) (.slice none 0 0) (.slice none 0 0)/\∀ j,((w.alloc (oQ4 x.pa x.pn x.pc x.sa x.sn x.sc x.wa x.wn x.wc x.ha x.hn x.hc)).alloc (zQ2)).frozen? ⟨w.heap.size+1,j,none⟩=false):=⟨⟨zV _ _ _ 0 (by simp),zV _ _ _ 1 (by simp),zV _ _ _ 2 (by simp),zV _ _ _ 3 (by simp)⟩,fun j=>yA _ _ _ _ (by simp)⟩
 have hz:((w.alloc (oQ4 x.pa x.pn x.pc x.sa x.sn x.sc x.wa x.wn x.wc x.ha x.hn x.hc)).alloc (zQ2)).heap.size=w.heap.size+2:=by simp
 have hl0:w.heap.size<((w.alloc (oQ4 x.pa x.pn x.pc x.sa x.sn x.sc x.wa x.wn x.wc x.ha x.hn x.hc)).alloc (zQ2)).heap.size:=by omega
 have hl1:w.heap.size+1<((w.alloc (oQ4 x.pa x.pn x.pc x.sa x.sn x.sc x.wa x.wn x.wc x.ha x.hn x.hc)).alloc (zQ2)).heap.size:=by omega
 have Hp : Hid (∀ wx, Below ((w.alloc (oQ4 x.pa x.pn x.pc x.sa x.sn x.sc x.wa x.wn x.wc x.ha x.hn x.hc)).alloc (zQ2)).heap.size ((w.alloc (oQ4 x.pa x.pn x.pc x.sa x.sn x.sc x.wa x.wn x.wc x.ha x.hn x.hc)).alloc (zQ2)) wx → (RowS wx x.pa x.pn fun i => .slice (x.pA i) (x.pL i) (x.pC i)) ∧ ∀ i, i < x.pn → ∃ b off, x.pA i = some ⟨b, off, none⟩ ∧ Src wx (x.pA i) (fI (x.pH i) (x.pL i))) := fun wx hb => ⟨(HG.out.below (BW.out.trans (hb.mono BW.out.size))).p, fun i hi => by
  obtain ⟨b,e,hlt,hI⟩:=(HG.out.below (BW.out.trans (hb.mono BW.out.size))).pi i hi
  exact ⟨b,0,e,by rw [e];exact srcI hlt hI⟩⟩
 have Hw : Hid (∀ wx, Below ((w.alloc (oQ4 x.pa x.pn x.pc x.sa x.sn x.sc x.wa x.wn x.wc x.ha x.hn x.hc)).alloc (zQ2)).heap.size ((w.alloc (oQ4 x.pa x.pn x.pc x.sa x.sn x.sc x.wa x.wn x.wc x.ha x.hn x.hc)).alloc (zQ2)) wx → (RowS wx x.wa x.wn fun i => .slice (x.wA i) (x.wL i) (x.wC i)) ∧ ∀ i, i < x.wn → (∃ b off, x.wA i = some ⟨b, off, none⟩ ∧ Src wx (x.wA i) (fT (x.wH i) (x.wL i))) ∨ (z = false ∧ x.wA i = none ∧ x.wL i = 0 ∧ x.wC i = 0)) := fun wx hb => ⟨(HG.out.below (BW.out.trans (hb.mono BW.out.size))).w, fun i hi => by
  rcases hN.w i hi with ⟨b,off,e⟩ | h
  ·exact .inl ⟨b,off,e,srcT ((HG.out.below (BW.out.trans (hb.mono BW.out.size))).wi i hi)⟩
  ·exact .inr h⟩
 have Hh : Hid (∀ wx, Below ((w.alloc (oQ4 x.pa x.pn x.pc x.sa x.sn x.sc x.wa x.wn x.wc x.ha x.hn x.hc)).alloc (zQ2)).heap.size ((w.alloc (oQ4 x.pa x.pn x.pc x.sa x.sn x.sc x.wa x.wn x.wc x.ha x.hn x.hc)).alloc (zQ2)) wx → (RowS wx x.ha x.hn fun i => .slice (x.hA i) (x.hL i) (x.hC i)) ∧ ∀ i, i < x.hn → (∃ b off, x.hA i = some ⟨b, off, none⟩ ∧ Src wx (x.hA i) (fE (x.hH i) (x.hL i))) ∨ (z = false ∧ x.hA i = none ∧ x.hL i = 0 ∧ x.hC i = 0)) := fun wx hb => ⟨(HG.out.below (BW.out.trans (hb.mono BW.out.size))).h, fun i hi => by
  rcases hN.h i hi with ⟨b,off,e⟩ | h
  ·exact .inl ⟨b,off,e,srcE ((HG.out.below (BW.out.trans (hb.mono BW.out.size))).hi i hi)⟩
  ·exact .inr h⟩
 have HZ2:Hid (((w.alloc (oQ4 x.pa x.pn x.pc x.sa x.sn x.sc x.wa x.wn x.wc x.ha x.hn x.hc)).alloc (zQ2)).heap.size=w.heap.size+1+1):=hz;clear hG hL hcs hz
 go_enter Tryz.func73,Tryz.ntmps73
 go_wp2_with fail
 clear hmk;generalize hW2:(w.alloc (oQ4 x.pa x.pn x.pc x.sa x.sn x.sc x.wa x.wn x.wc x.ha x.hn x.hc)).alloc (zQ2)=W2 at *;clear hW2
 go_loopw [3,13] (fun v i wr=>∃ k:Nat,k<=x.sn/\i=.int .i64 k/\Hid ((∃ us,LS wr (fun b=>W2.heap.size<=b/\b<wr.heap.size) v k us x.sS)/\Below W2.heap.size W2 wr)) (fun _ i _=>x.sn - (intOf i).toNat)
 case atStart=>exact ⟨0,Nat.zero_le _,rfl,⟨fun _=>.slice none 0 0,LS.made W2 cs x.sn HL.out.s.1 HCS.out (fun b=>W2.heap.size<=b/\b<(W2.alloc (.cells cs 142)).heap.size) ⟨Nat.le_refl _,by simp⟩ _ _ HZ2.out.symm⟩,zP _ _⟩
 case round=>
  obtain ⟨k,hk,rfl,HZ⟩:=hrel;by_cases hlt:k<x.sn
  ·have hlt':(k:Int)<(x.sn:Int):=by omega
   obtain ⟨⟨us,oz⟩,bz⟩:=HZ.out;obtain ⟨bs,os,es,s0,s1,s2,s3⟩:=(HG.out.below (BW.out.trans (bz.mono BW.out.size))).s.at hlt;have hls:=(HG.out.below (BW.out.trans (bz.mono BW.out.size))).s.lst k hlt;have hbs:bs<wr.heap.size:=zJ wr _ s0;have HLk:=HL.out.s.2 k hlt;rw [es];have OZ:Hid (LS wr (fun b=>W2.heap.size<=b/\b<wr.heap.size) u3 k us x.sS):=oz;have BZ:Hid (Below W2.heap.size W2 wr):=bz;have LSt:Hid (Sl wr (x.sQ k).ra (x.sQ k).rs/\Sl wr (x.sQ k).oa (x.sQ k).os):=hls;clear oz bz hls HZ es;go_wp2_with fail
   have ba:=zP wr (oQ1 (x.sQ k).p (x.sQ k).ra (x.sQ k).rs.length (x.sQ k).rc (x.sQ k).oa (x.sQ k).os.length (x.sQ k).oc (x.sQ k).c);refine (qfg _ _ _ _ _ _ (x.sQ k).rs (x.sQ k).os _ HLk.1 HLk.2 (LSt.1.below ba) (LSt.2.below ba)).mono ?_;rintro e w1 ⟨v1,rfl,o1,d1⟩;obtain ⟨ra1,rc1,oa1,oc1,rfl,-,-⟩:=o1.read;have q1:Below wr.heap.size wr w1:=ba.trans (d1.mono ba.size);have F1:Hid (qag w1 wr.heap.size (stV (x.sQ k).p ra1 (x.sQ k).rs.length rc1 oa1 (x.sQ k).os.length oc1 (x.sQ k).c) (x.sQ k).p (x.sQ k).rs (x.sQ k).os (x.sQ k).c/\Below wr.heap.size wr w1):=⟨o1.mono (by simp),q1⟩
   clear o1 d1 q1 ba s0 s1 s2 s3;go_wp2_with (at_builtin;refine qat kndS w1 rfl rfl _ _ rfl 0 u3 k _ rfl (OZ.out.below F1.2).row #[.int .i64 (x.sQ k).p,.slice ra1 (x.sQ k).rs.length rc1,.slice oa1 (x.sQ k).os.length oc1,.int .i64 (x.sQ k).c] rfl rfl (by intro u hu;simp at hu;rcases hu with rfl | rfl | rfl | rfl <;> rfl) (by omega) (Nat.zero_le _) ?_;intro v5 w5 o5 g5 q5 n5;have F5:Hid ((∃ us,LS w5 (fun b=>W2.heap.size<=b/\b<w5.heap.size) v5 (k+1) us x.sS)/\Below W2.heap.size W2 w5):=⟨⟨_,OZ.out.push F1.2 F1.1 o5 g5 q5 (fun j hj _=>⟨hj.1,zL hj.2 (zO F1.2.size g5.size)⟩) (fun j hj hj'=>⟨zO BZ.out.size hj,hj'⟩)⟩,Below.grown (BZ.out.trans (F1.2.mono BZ.out.size)) g5 (zO BZ.out.size F1.2.size) (fun j hj=>(OZ.out.rb j hj).1)⟩;clear o5 g5 q5 n5)
   go_roundw
   case rel=>exact ⟨k+1,by omega,by go_num,F5.1,F5.2⟩
   case measure=>simp [intOf];omega
  ·have hkn:k=x.sn:=by omega
   subst hkn;obtain ⟨⟨us,oz⟩,q0⟩:=HZ.out;obtain ⟨sa,sc,rfl⟩:=zT oz.row;have b0:=NB.out.below q0;clear HZ;go_wp2_with fail
   refine qa7 (fun w'=>w'.cell? ⟨w.heap.size,0,none⟩=some (.slice x.pa x.pn x.pc)/\w'.cell? ⟨w.heap.size,2,none⟩=some (.slice x.wa x.wn x.wc)/\w'.cell? ⟨w.heap.size,3,none⟩=some (.slice x.ha x.hn x.hc)) (fun i=>i == 11) (by kernel_rfl) ?_;have hHeld:(fun w'=>w'.cell? ⟨w.heap.size,0,none⟩=some (.slice x.pa x.pn x.pc)/\w'.cell? ⟨w.heap.size,2,none⟩=some (.slice x.wa x.wn x.wc)/\w'.cell? ⟨w.heap.size,3,none⟩=some (.slice x.ha x.hn x.hc)) wr.drew:=⟨b0.1,b0.2.2.1,b0.2.2.2⟩
   have q0:Below W2.heap.size W2 wr.drew:=q0.drew;refine qc8 [0,1,3,4,5,7,8] ?_;iterate 7 (refine qeu rfl hHeld ?_)
   refine qcl ?_;refine qar 2 rfl (by kernel_rfl) (fun K hK=>?_);refine qav rfl 140 _ _ rfl #[.slice x.pa x.pn x.pc] (by simp [Act.eval]) (zZ Tryz.func140 (by kernel_rfl) rfl) (qhh (z:=z) x.pa x.pn x.pc x.pA x.pL x.pC x.pH wr.drew HL.out.p.1 HL.out.p.2 (Hp.out _ q0).1 (Hp.out _ q0).2) ?_;rintro e w1 ⟨v1,u1,rfl,o1,d1⟩;obtain ⟨a1,c1,rfl⟩:=zT o1.row;refine ⟨_,rfl,?_⟩;have q1:Below W2.heap.size W2 w1:=q0.trans (d1.mono q0.size);have b1:=NB.out.below q1;refine hK.out _ _ (fun _=>⟨b1.1,b1.2.2.1,b1.2.2.2⟩) ?_;clear hHeld;have hHeld:(fun w'=>w'.cell? ⟨w.heap.size,0,none⟩=some (.slice x.pa x.pn x.pc)/\w'.cell? ⟨w.heap.size,2,none⟩=some (.slice x.wa x.wn x.wc)/\w'.cell? ⟨w.heap.size,3,none⟩=some (.slice x.ha x.hn x.hc)) w1:=⟨b1.1,b1.2.2.1,b1.2.2.2⟩
   clear hK K
   (try simp only [Act.put,zD,zE,zF])
   refine qar 6 rfl (by kernel_rfl) (fun K hK=>?_);refine qav rfl 141 _ _ rfl #[.slice x.wa x.wn x.wc] (by simp [Act.eval]) (zZ Tryz.func141 (by kernel_rfl) rfl) (qgb (z:=z) x.wa x.wn x.wc x.wA x.wL x.wC x.wH w1 HL.out.w.1 HL.out.w.2 (Hw.out _ q1).1 (Hw.out _ q1).2) ?_;rintro e w2 ⟨v2,u2,rfl,o2,d2⟩;obtain ⟨a2,c2,rfl⟩:=zT o2.row;refine ⟨_,rfl,?_⟩;have q2:Below W2.heap.size W2 w2:=q1.trans (d2.mono q1.size);have b2:=NB.out.below q2;refine hK.out _ _ (fun _=>⟨b2.1,b2.2.2.1,b2.2.2.2⟩) ?_;clear hHeld;have hHeld:(fun w'=>w'.cell? ⟨w.heap.size,0,none⟩=some (.slice x.pa x.pn x.pc)/\w'.cell? ⟨w.heap.size,2,none⟩=some (.slice x.wa x.wn x.wc)/\w'.cell? ⟨w.heap.size,3,none⟩=some (.slice x.ha x.hn x.hc)) w2:=⟨b2.1,b2.2.2.1,b2.2.2.2⟩
   clear hK K
   (try simp only [Act.put,zD,zE,zF])
   refine qar 9 rfl (by kernel_rfl) (fun K hK=>?_);refine qav rfl 142 _ _ rfl #[.slice x.ha x.hn x.hc] (by simp [Act.eval]) (zZ Tryz.func142 (by kernel_rfl) rfl) (qff (z:=z) x.ha x.hn x.hc x.hA x.hL x.hC x.hH w2 HL.out.h.1 HL.out.h.2 (Hh.out _ q2).1 (Hh.out _ q2).2) ?_;rintro e w3 ⟨v3,u3,rfl,o3,d3⟩;obtain ⟨a3,c3,rfl⟩:=zT o3.row;refine ⟨_,rfl,?_⟩;have q3:Below W2.heap.size W2 w3:=q2.trans (d3.mono q2.size);have b3:=NB.out.below q3;refine hK.out _ _ (fun _=>⟨b3.1,b3.2.2.1,b3.2.2.2⟩) ?_;clear hHeld;have hHeld:(fun w'=>w'.cell? ⟨w.heap.size,0,none⟩=some (.slice x.pa x.pn x.pc)/\w'.cell? ⟨w.heap.size,2,none⟩=some (.slice x.wa x.wn x.wc)/\w'.cell? ⟨w.heap.size,3,none⟩=some (.slice x.ha x.hn x.hc)) w3:=⟨b3.1,b3.2.2.1,b3.2.2.2⟩
   clear hK K
   (try simp only [Act.put,zD,zE,zF])
   refine qi2 10 rfl hHeld ?_;obtain ⟨r0,r1,r2,r3⟩:=RB.1.below q3;have rf:∀ j,w3.frozen? ⟨w.heap.size+1,j,none⟩=false:=fun j=>((qap q3).2 _ j hl1).trans (RB.2 j);refine qar 11 rfl (by kernel_rfl) (fun K hK=>?_);go_simp;refine hK.out _ _ (fun h=>?_) ?_
   ·exact absurd h (by decide)
   clear hK K
   (try simp only [Act.put])
   refine qbx (by kernel_rfl) ?_ _;go_wp2;refine bodyPost_ret (v:=sysV a1 x.pn c1 sa x.sn sc a2 x.wn c2 a3 x.hn c3) (by simp [results,Tryz.results73,go_sem,r0,r1,r2,r3]) rfl ⟨_,rfl,?_,?_⟩
   ·obtain ⟨cc,hcc⟩:=OwnS.four (B:=w.heap.size) (m1:=W2.heap.size) (wf:=(((w3.setCell ⟨w.heap.size+1,0,none⟩ (.slice a1 x.pn c1)).setCell ⟨w.heap.size+1,1,none⟩ (.slice sa x.sn sc)).setCell ⟨w.heap.size+1,2,none⟩ (.slice a2 x.wn c2)).setCell ⟨w.heap.size+1,3,none⟩ (.slice a3 x.hn c3)) (y:=x.y) (by have:W2.heap.size<=wr.heap.size:=q0.size;omega) (by simp) (Nat.le_refl _) (Nat.le_refl _) (by omega) oz o1 o2 o3 ((Below.refl wr.heap.size wr).drew.trans d1) d2 d3 (fun k h1 h2=>by repeat (rw [zN _ _ _ _ (show k≠w.heap.size+1 by omega)]))
    exact ⟨cc,_,_,_,_,_,_,_,_,rfl,hcc⟩
   ·have h9:=BW.out.trans (q3.mono BW.out.size)
    exact (((h9.setCell (show w.heap.size<=w.heap.size+1 by omega) _).setCell (show w.heap.size<=w.heap.size+1 by omega) _).setCell (show w.heap.size<=w.heap.size+1 by omega) _).setCell (show w.heap.size<=w.heap.size+1 by omega) _
open Go.RowKit Go.Extern.Stop Go.Stop Go.Extern
theorem qyu (a p:Addr) (W:World) (ha:W.cell? a=some (.pointer (some p))):
  (ReflectliteValue.method (ReflectliteValue.valueError "reflectlite.Value.Elem" 0) ReflectliteValue.elem #[.agg #[.pointer (some ⟨1, 275, none⟩), .pointer (some a), .int .u64 150]]).run Tryz.prog W
   = .ok (.agg #[.pointer (some ⟨1,273,none⟩),.pointer (some p),.int .u64 409]) W:=by
 rw [rlm];simp only [Sem.run_bind,qxn,Result.andThen];simp [ReflectliteValue.elem,loadVar,isAgg,underlying,Tryz.underlying275,ha,Result.andThen,qx0,mkE]
theorem rls (v x : Value) : ReflectliteValue.set #[v, x] = (do
  let (some (dst,a,fl),some (src,b,_)):=(<- ReflectliteValue.parts v,<- ReflectliteValue.parts x)
   | unsupported (.noEntry "extern/(internal/reflectlite.Value).Set.zeroValue")
  if fl / ReflectliteValue.flagAddr % 2 == 0 then unsupported (.noEntry "extern/(internal/reflectlite.Value).Set.unaddressable")
  let val <- loadVar src b
  if <- Rtype.directlyAssignable dst src then storeVar dst a val
  else if <- Rtype.implements dst src then
   if (<- Rtype.kind src) == 20 then
    match val with
    | .nilIface => unsupported (.noEntry "extern/reflectlite: a nil value of one interface type handed on as a value of another")
    | _=>storeVar dst a val
   else storeVar dst a (.iface src val)
  else panicString ("reflectlite.Set: value of type " ++ (<- Rtype.spelt src) ++ " is not assignable to type " ++ (<- Rtype.spelt dst))
  pure (.tuple #[])):=rfl
theorem qye (a:Addr) (w:World):(ReflectliteValue.parts (.agg #[.pointer (some ⟨1,273,none⟩),.pointer (some a),.int .u64 409])).run Tryz.prog w=.ok (some (273,a,409)) w:=by kernel_rfl
theorem qy4 (a:Addr) (w:World):(ReflectliteValue.parts (.agg #[.pointer (some ⟨1,273,none⟩),.pointer (some a),.int .u64 153])).run Tryz.prog w=.ok (some (273,a,153)) w:=by kernel_rfl
theorem qxv (w:World):(Rtype.directlyAssignable 273 273).run Tryz.prog w=.ok true w:=by kernel_rfl
theorem setE (ta b:Addr) (x:Int) (old:Value) (W:World) (hb:W.cell? b=some (.int .i64 x)) (ht:W.cell? ta=some old) (hf:W.frozen? ta=false):
  (ReflectliteValue.set #[.agg #[.pointer (some ⟨1,273,none⟩),.pointer (some ta),.int .u64 409],.agg #[.pointer (some ⟨1,273,none⟩),.pointer (some b),.int .u64 153]]).run Tryz.prog W
   = .ok (.tuple #[]) (W.setCell ta (.int .i64 x)):=by
 rw [rls];simp only [Sem.run_bind,qye,qy4,Result.andThen];simp [ReflectliteValue.flagAddr,loadVar,loadCells,loadCellsFrom,hb,Result.andThen,qxv,storeVar,Value.cells,storeCells,Addr.add];rw [run_store Tryz.prog W ta _ _ (by rfl)];simp [ht,hf]
open Go.Sort
theorem qw9 {d l:Nat->Nat} (h:∀ i,d i<=l i) (n:Nat) (e:sumL d n=sumL l n) (p:Nat) (hp:p<n):d p=l p:=by
 induction n with
 | zero=>omega
 | succ n ih=>
  have h1:=qd6 h n;have h2:=h n;have e':sumL d n+d n=sumL l n+l n:=e;by_cases hpn:p=n
  ·subst hpn
   omega
  ·exact ih (by omega) (by omega)
structure OrdB (w:World) (D n:Nat) (d:Nat->Nat):Prop where
 c:∀ i,i<n->w.cell? ⟨D,i,none⟩=some (.int .i64 (d i))
 fr:∀ j,w.frozen? ⟨D,j,none⟩=false
theorem OrdB.blk {w w':World} {D n:Nat} {d:Nat->Nat} (h:OrdB w D n d) (hb:w'.heap[D]? = w.heap[D]?):OrdB w' D n d:=⟨fun i hi=>(zH hb).trans (h.c i hi),fun j=>(zI hb).trans (h.fr j)⟩
theorem OrdB.put {w:World} {D n k:Nat} {d:Nat->Nat} (h:OrdB w D n d) (hk:k<n):OrdB (w.setCell ⟨D,k,none⟩ (.int .i64 ((d k:Int)+1))) D n (up d k):=by
 refine ⟨fun i hi=>?_,fun j=>by rw [World.frozen?_setCell];exact h.fr j⟩;by_cases e:i=k
 ·subst e
  rw [World.cell?_setCell_same' _ _ _ (by rw [h.c i hi];rfl),qd9];rfl
 ·rw [World.cell?_setCell_other _ _ _ _ (by intro e';injection e' with _ e';exact e e'.symm),up_other e]
  exact h.c i hi
structure Od (w wr:World) (B D:Nat) (ha:Option Addr) (hc:Nat) (y:Hs) (d:Nat->Nat):Prop where
 pu:y.Put d
 od:OrdB wr D y.n d
 bx:wr.cell? ⟨B,3,none⟩=some (.slice ha y.n hc)
 be:Below w.heap.size w wr
theorem Od.below {w wr w':World} {B D:Nat} {ha:Option Addr} {hc:Nat} {y:Hs} {d:Nat->Nat} (h:Od w wr B D ha hc y d) (hb:Below wr.heap.size wr w') (hD:D<wr.heap.size):Od w w' B D ha hc y d:=
 ⟨h.pu,h.od.blk (hb.block D hD),(hb.cell (p:=⟨B,3,none⟩) (zJ wr _ h.bx)).trans h.bx,h.be.trans (hb.mono h.be.size)⟩
theorem Od.set {w wr:World} {B D k:Nat} {ha:Option Addr} {hc:Nat} {y:Hs} {d:Nat->Nat} (h:Od w wr B D ha hc y d) (hk:k<y.n) (hcan:y.Can d k) (hBD:B≠D) (hw:w.heap.size<=D):Od w (wr.setCell ⟨D,k,none⟩ (.int .i64 ((d k:Int)+1))) B D ha hc y (up d k):=
 ⟨.next h.pu hk hcan,h.od.put hk,(World.cell?_setCell_other _ _ _ _ (by intro e;injection e with e;exact hBD e.symm)).trans h.bx,h.be.setCell hw _⟩
theorem qnr (w:World) (n i:Nat) (hi:i<n):(w.alloc (.cells (madeCells #[.int .i64 0] n) 3)).cell? ⟨w.heap.size,i,none⟩=some (.int .i64 0):=by
 rw [zV _ _ _ i rfl];simp [madeCells,hi,Nat.mod_one]
theorem qrz (a:Option Addr) (len cap h:Nat) (hh:h<=cap) (w:World):(Instr.slice 87 (.slice a len cap) none (some (.int .i64 (h:Int))) none).run Tryz.prog w=.ok (.slice a h cap) w:=by
 have hh':(h:Int)<=(cap:Int):=by omega
 cases a with
 | none=>simp [go_sem,sliced,hh']
 | some a=>simp [go_sem,sliced,hh']
theorem qp8 (pa:Option Addr) (pn pc:Nat) (sa:Option Addr) (sn sc:Nat) (wa:Option Addr) (wn wc:Nat) (ha:Option Addr) (hc:Nat) (hA:Nat->Option Addr) (hC:Nat->Nat) (y:Hs) (w:World) (hE:HisE w ha hA hC y) (hcap:∀ i,i<y.n->y.l i<=hC i) (h1:1<=y.n) (h4:y.n<=4) (hp:y.Peers) (hl:∀ i,i<y.n->y.l i<=200):
  Calls Tryz.prog 125 #[sysV pa pn pc sa sn sc wa wn wc ha y.n hc] w fun e w'=>e=.returned (.bool (qB y.Row))/\Below w.heap.size w w':=by
 have HE:Hid (HisE w ha hA hC y):=hE;have HH:Hid (y.Peers/\(∀ i,i<y.n->y.l i<=200)/\(∀ i,i<y.n->y.l i<=hC i)):=⟨hp,hl,hcap⟩
 have hn4:(y.n:Int)<=4:=by omega
 have hmk:∀ wx:World,(Instr.makeSlice 28 (.int .i64 (y.n:Int)) (.int .i64 (y.n:Int))).run Tryz.prog wx=.ok (.slice (some ⟨wx.heap.size,0,none⟩) y.n y.n) (wx.alloc (.cells (madeCells #[.int .i64 0] y.n) 3)):=fun wx=>qb9 y.n (by omega) wx
 have HOd:Hid (Od w ((w.alloc (oQ4 pa pn pc sa sn sc wa wn wc ha y.n hc)).alloc (.cells (madeCells #[.int .i64 0] y.n) 3)) w.heap.size (w.heap.size+1) ha hc y (fun _=>0)):=by
  refine ⟨.start,⟨fun i hi=>?_,fun j=>yA _ _ _ _ (by simp)⟩,?_,(zS _ _).trans ((zS _ _).mono (by simp))⟩
  ·have:=qnr (w.alloc (oQ4 pa pn pc sa sn sc wa wn wc ha y.n hc)) y.n i hi
   rw [World.size_alloc] at this;exact this
  ·exact ((BoxC.new w _ _ _ _ _).below (zS _ _)).2.2.2
 have HD:Hid (w.heap.size+1<((w.alloc (oQ4 pa pn pc sa sn sc wa wn wc ha y.n hc)).alloc (.cells (madeCells #[.int .i64 0] y.n) 3)).heap.size):=by
  show w.heap.size+1<_;simp
 clear hE hp hl hcap
 go_enter Tryz.func125,Tryz.ntmps125
 go_wp2_with fail
 generalize (w.alloc (oQ4 pa pn pc sa sn sc wa wn wc ha y.n hc)).alloc (.cells (madeCells #[.int .i64 0] y.n) 3)=W1 at *;generalize hD:w.heap.size+1=D at *;have HDW:Hid (w.heap.size+1=D):=hD;clear hmk hD
 go_loopw [6,7] (fun s i wr=>∃ k:Nat,k<=y.n/\i=.int .i64 k/\s=.int .i64 (sumL y.l k:Nat)/\wr=W1) (fun _ i _=>y.n - (intOf i).toNat)
 case atStart=>exact ⟨0,Nat.zero_le _,rfl,rfl,rfl⟩
 case round=>
  obtain ⟨k,hk,rfl,rfl,rfl⟩:=hrel
  have hsum:sumL y.l k<=200*k:=by
   have:∀ j,j<=y.n->sumL y.l j<=200*j:=by
    intro j
    induction j with
    | zero=>exact fun _=>Nat.le_refl _
    | succ j ih=>
     intro hj;have h5:=ih (by omega);have h6:=HH.2.1 j (by omega);show sumL y.l j+y.l j<=200*(j+1);omega
   exact this k hk
  have hsum':((sumL y.l k:Nat):Int)<=1000:=by omega
  have b3:=HOd.out.bx;by_cases hlt:k<y.n
  ·have hlt':(k:Int)<(y.n:Int):=by omega
   obtain ⟨bh,oh,eh,ch⟩:=(HE.out.below HOd.out.be).row.at hlt;rw [eh] at b3;have hl2:(y.l k:Int)<=200:=by have:=HH.2.1 k hlt;omega
   clear hsum;go_wp2;go_roundw
   case rel=>exact ⟨k+1,by omega,by go_num,by simp only [sumL];congr 1,by first | rfl | trivial⟩
   case measure=>simp [intOf];omega
  ·have hkn:k=y.n:=by omega
   subst hkn;clear hlt hk hsum b3;have hlt':¬ ((y.n:Int)<(y.n:Int)):=by omega
   have hsumI:∀ d:Nat->Nat,y.Put d->((sumL y.l y.n:Nat):Int) - ((sumL d y.n:Nat):Int)=((sumL y.l y.n - sumL d y.n:Nat):Int):=fun d hd=>by
    have:=qd6 hd.le y.n;omega
   have HSI:Hid (∀ d:Nat->Nat,y.Put d->((sumL y.l y.n:Nat):Int) - ((sumL d y.n:Nat):Int)=((sumL y.l y.n - sumL d y.n:Nat):Int)):=hsumI;have HSM:Hid (((sumL y.l y.n:Nat):Int)<=1000):=hsum';clear hsumI hsum';go_wp2_with fail
   go_loopg [5,6] (2*(sumL y.l y.n)+1) (fun gn m s wr=>∃ (t:Bool) (d:Nat->Nat),m=.bool t/\s=.int .i64 ((sumL y.l y.n - sumL d y.n:Nat):Int)/\gn=2*(sumL y.l y.n - sumL d y.n)+(if t=true then 1 else 0)/\Hid (Od w wr w.heap.size D ha hc y d/\D<wr.heap.size/\(t=false->∀ p,p<y.n->¬ y.Can d p)))
   case atStart=>exact ⟨true,fun _=>0,rfl,by rw [qf0];rfl,by rw [qf0];rfl,HOd.out,HD.out,fun h=>by cases h⟩
   case round=>
    clear HOd HD;obtain ⟨t,d,rfl,rfl,hgn,HI⟩:=hrel
    rcases zK t with rfl | rfl
    ·have HGN:Hid (gk=2*(sumL y.l y.n - sumL d y.n)+1):=hgn
     clear hgn;go_wp2_with fail
     go_loopw [5,6,8] (fun m s i wr=>∃ (k:Nat) (t':Bool) (d':Nat->Nat),k<=y.n/\i=.int .i64 k/\m=.bool t'/\s=.int .i64 ((sumL y.l y.n - sumL d' y.n:Nat):Int)/\Hid (Od w wr w.heap.size D ha hc y d'/\D<wr.heap.size/\(t'=true->sumL d y.n<sumL d' y.n)/\(t'=false->d'=d/\∀ p,p<k->¬ y.Can d p))) (fun _ _ i _=>y.n - (intOf i).toNat)
     case atStart=>exact ⟨0,false,d,Nat.zero_le _,rfl,rfl,rfl,HI.1,HI.2.1,(fun h=>by cases h),fun _=>⟨rfl,fun p hp=>by omega⟩⟩
     case round=>
      clear HI;obtain ⟨k,t',d',hk,rfl,rfl,rfl,HJ⟩:=hrel;by_cases hlt:k<y.n
      ·have hlt':(k:Int)<(y.n:Int):=by omega
       have hdk:d' k<=y.l k:=HJ.1.pu.le k;have hl2:(y.l k:Int)<=200:=by have:=HH.2.1 k hlt;omega
       have dk:=HJ.1.od.c k hlt;have b3:=HJ.1.bx;obtain ⟨bh,oh,eh,ch⟩:=(HE.out.below HJ.1.be).row.at hlt;rw [eh] at b3;by_cases he:d' k=y.l k
       ·have HNo:Hid (¬ y.Can d' k):=fun h=>by have:=h.1;omega
        have HJ' : ∀ nq, Hid (Od w (wr.drewN nq) w.heap.size D ha hc y d' ∧ D < (wr.drewN nq).heap.size ∧ (t' = true → sumL d y.n < sumL d' y.n) ∧ (t' = false → d' = d ∧ ∀ p, p < k + 1 → ¬ y.Can d p)) := fun nq => ⟨HJ.1.below (yB (Below.refl _ _) _) HJ.2.1, HJ.2.1, HJ.2.2.1, fun h => ⟨(HJ.2.2.2 h).1, fun p hp => by
         have h5:=HJ.2.2.2 h;by_cases e:p=k
         ·subst e
          rw [<- h5.1];exact HNo.out
         ·exact h5.2 p (by omega)⟩⟩
        rw [he] at dk;have HJQ:Hid (∀ nq,Hid (Od w (wr.drewN nq) w.heap.size D ha hc y d'/\D<(wr.drewN nq).heap.size/\(t'=true->sumL d y.n<sumL d' y.n)/\(t'=false->d'=d/\∀ p,p<k+1->¬ y.Can d p))):=HJ';clear HJ HJ' he hdk;go_wp2_with fail
        go_quiet (fail)
        go_wp2;go_roundw
        case rel=>exact ⟨k+1,t',d',by omega,by go_num,rfl,rfl,HJQ.out _⟩
        case measure=>simp [intOf];omega
       ·have hkl:d' k<y.l k:=by omega
        have hkl':(d' k:Int)<(y.l k:Int):=by omega
        have hne:((d' k:Int) == (y.l k:Int))=false:=by
         have:¬ (d' k:Int)=(y.l k:Int):=by omega
         simpa using this
        clear he hdk;go_wp2_with fail
        go_quiet (fail)
        go_wp2_with fail
        have OD:Hid (Od w (wr.drewN nq) w.heap.size D ha hc y d'/\D<(wr.drewN nq).heap.size/\(t'=true->sumL d y.n<sumL d' y.n)/\(t'=false->d'=d/\∀ p,p<k->¬ y.Can d p)):=⟨HJ.1.below (yB (Below.refl _ _) _) HJ.2.1,HJ.2.1,HJ.2.2⟩
        clear HJ dk b3 ch;generalize wr.drewN nq=wd at *;have dk:=OD.1.od.c k hlt;have b3:=OD.1.bx;obtain ⟨bh',oh',eh',ch⟩:=(HE.out.below OD.1.be).row.at hlt;rw [eh'] at b3;obtain ⟨b,off,ea,zb,e0,e1,e2⟩:=((HE.out.below OD.1.be).ev k hlt).at hkl;rw [ea] at ch;have n1:wd.heap.size≠D:=by have:=OD.2.1;omega
        have n2:wd.heap.size≠b:=by omega
        have n3:wd.heap.size≠bh':=by have:=zJ wd _ ch;simp at this;omega
        have dk':=qam dk;have b3':=qam b3;have ch':=qam ch;have e0':=qam e0;have e1':=qam e1;have e2':=qam e2;clear zb
        go_region
        all_goals
         have OZ:Hid (Od w (wd.alloc (oQ0 (y.e k (d' k)).k (y.e k (d' k)).q (y.e k (d' k)).v)).drew w.heap.size D ha hc y d'/\D<(wd.alloc (oQ0 (y.e k (d' k)).k (y.e k (d' k)).q (y.e k (d' k)).v)).drew.heap.size/\(t'=true->sumL d y.n<sumL d' y.n)/\(t'=false->d'=d/\∀ p,p<k->¬ y.Can d p)):=⟨OD.1.below (zS _ _).drew OD.2.1,zL OD.2.1 (zS _ _).drew.size,OD.2.2⟩
         have z0:(wd.alloc (oQ0 (y.e k (d' k)).k (y.e k (d' k)).q (y.e k (d' k)).v)).drew.cell? ⟨wd.heap.size,0,none⟩=some (.int .i64 (y.e k (d' k)).k):=zV wd _ _ 0 rfl;have z1:(wd.alloc (oQ0 (y.e k (d' k)).k (y.e k (d' k)).q (y.e k (d' k)).v)).drew.cell? ⟨wd.heap.size,1,none⟩=some (.int .i64 (y.e k (d' k)).q):=zV wd _ _ 1 rfl;go_wp2_with fail
         clear dk b3 ch e0 e1 e2 dk' b3' ch' e0' e1' e2' n1 n2 n3 OD eh eh' ea;generalize (wd.alloc (oQ0 (y.e k (d' k)).k (y.e k (d' k)).q (y.e k (d' k)).v)).drew=wz at *;generalize wd.heap.size=M at *
         rcases zK ((y.e k (d' k)).k == 3) with t3 | t3
         case inr=>
          have HK3:Hid (¬ (y.e k (d' k)).k=3):=by
           show ¬ (y.e k (d' k)).k=3;simpa using t3
          go_quiet (fail)
          have OQ:Hid (Od w (wz.drewN nq) w.heap.size D ha hc y d'/\D<(wz.drewN nq).heap.size/\(t'=true->sumL d y.n<sumL d' y.n)/\(t'=false->d'=d/\∀ p,p<k->¬ y.Can d p)):=⟨OZ.1.below (yB (Below.refl _ _) _) OZ.2.1,OZ.2.1,OZ.2.2⟩
          clear z0 z1 OZ;generalize wz.drewN nq=wq at *;have HCn:Hid (y.Can d' k):=⟨hkl,fun h=>absurd h HK3.out⟩
          have HPu:Hid (y.Put (up d' k)):=.next OQ.1.pu hlt HCn.out;have hsu:=ql0 (d:=d') hlt;have hsl:=qd6 HPu.out.le y.n
          have HLE:Hid (((sumL y.l y.n - sumL d' y.n:Nat):Int) - 1=((sumL y.l y.n - sumL (up d' k) y.n:Nat):Int)):=by
           show ((sumL y.l y.n - sumL d' y.n:Nat):Int) - 1=((sumL y.l y.n - sumL (up d' k) y.n:Nat):Int);omega
          have hA1:((sumL y.l y.n - sumL d' y.n:Nat):Int)<=1000:=by have:=HSM.out;omega
          have hA0:(1:Int)<=((sumL y.l y.n - sumL d' y.n:Nat):Int):=by omega
          have HNx : Hid (Od w (wq.setCell ⟨D, k, none⟩ (.int .i64 ((d' k : Int) + 1))) w.heap.size D ha hc y (up d' k) ∧ D < (wq.setCell ⟨D, k, none⟩ (.int .i64 ((d' k : Int) + 1))).heap.size ∧ (true = true → sumL d y.n < sumL (up d' k) y.n) ∧ (true = false → up d' k = d ∧ ∀ p, p < k + 1 → ¬ y.Can d p)) := ⟨OQ.1.set hlt HCn.out (by have := HDW.out; omega) (by have := HDW.out; omega), by simpa [World.setCell] using OQ.2.1, (fun _ => by
           rcases zK t' with h5 | h5
           ·have:=OQ.2.2.1 h5
            omega
           ·have:=(OQ.2.2.2 h5).1
            rw [this] at hsu ⊢
            omega),(fun h=>by cases h)⟩
          have dkq:=OQ.1.od.c k hlt;have frq:=OQ.1.od.fr;clear hsu hsl OQ;generalize hAA:((sumL y.l y.n - sumL d' y.n:Nat):Int)=AA at *;clear hAA;go_wp2;go_roundw
          case rel=>exact ⟨k+1,true,up d' k,by omega,by go_num,rfl,by rw [HLE.out],HNx.out⟩
          case measure=>simp [intOf];omega
         case inl=>
          have hk3:(y.e k (d' k)).k=3:=by simpa using t3
          have HK3:Hid ((y.e k (d' k)).k=3):=hk3;have hq:=HH.1 k hlt (d' k) hkl;obtain ⟨q,hqe⟩:∃ q:Nat,(y.e k (d' k)).q=(q:Int):=⟨(y.e k (d' k)).q.toNat,by omega⟩
          have HQE:Hid ((y.e k (d' k)).q=(q:Int)):=hqe;have hqn:q<y.n:=by omega
          have hqn':(q:Int)<(y.n:Int):=by omega
          rw [hk3] at z0;rw [hqe] at z1;have dk:=OZ.1.od.c k hlt;have dq:=OZ.1.od.c q hqn;have b3:=OZ.1.bx;obtain ⟨bz,oz,ez,ch⟩:=(HE.out.below OZ.1.be).row.at hlt;obtain ⟨bz',oz',ez',cq⟩:=(HE.out.below OZ.1.be).row.at hqn;rw [ez] at b3 ez';simp only [Option.some.injEq,Addr.mk.injEq] at ez';obtain ⟨rfl,rfl,-⟩:=ez';have ks:=qrz (hA k) (y.l k) (hC k) (d' k) (by have:=HH.2.2 k hlt;omega);have qs:=qrz (hA q) (y.l q) (hC q) (d' q) (by have:=HH.2.2 q hqn;have:=OZ.1.pu.le q;omega);have HCk:Hid (∀ dd os,Calls Tryz.prog 176 #[.slice (hA k) (d' k) (hC k),.int .i64 3,.int .i64 q] (grow (redrawn wz dd) os) fun e w'=>e=.returned (.int .i64 (cnt (y.e k) 3 q (d' k):Nat))/\Below (grow (redrawn wz dd) os).heap.size (grow (redrawn wz dd) os) w'):=fun dd os=>qiw (hA k) (d' k) (hC k) (y.e k) 3 q _ (by have:=HH.2.1 k hlt;omega) (((HE.out.below OZ.1.be).below (below_regrown wz dd os)).ev k hlt |>.take (by omega));have HCq:Hid (∀ dd os,Calls Tryz.prog 176 #[.slice (hA q) (d' q) (hC q),.int .i64 2,.int .i64 k] (grow (redrawn wz dd) os) fun e w'=>e=.returned (.int .i64 (cnt (y.e q) 2 k (d' q):Nat))/\Below (grow (redrawn wz dd) os).heap.size (grow (redrawn wz dd) os) w'):=fun dd os=>qiw (hA q) (d' q) (hC q) (y.e q) 2 k _ (by have:=HH.2.1 q hqn;have:=OZ.1.pu.le q;omega) (((HE.out.below OZ.1.be).below (below_regrown wz dd os)).ev q hqn |>.take (OZ.1.pu.le q));have z0':=cell_regrown z0;have z1':=cell_regrown z1;have dk':=cell_regrown dk;have dq':=cell_regrown dq;have b3':=cell_regrown b3;have ch':=cell_regrown ch
          have cq':=cell_regrown cq;clear ez hq hqe hk3 t3;refine wp_region_quiet_below (by kernel_rfl) (by kernel_rfl) ?_
          repeat (quiet_step (first|(go_at_call_of 176 (hA k);exact Calls.regrown_of (HCk.out _ _))|(go_at_call_of 176 (hA q);exact Calls.regrown_of (HCq.out _ _))))
          refine wpQuiet_nil ?_;intro _ hw';obtain ⟨⟨dd,os⟩,hw''⟩:=hw';subst hw'';have OQ:Hid (Od w (grow (redrawn wz dd) os) w.heap.size D ha hc y d'/\D<(grow (redrawn wz dd) os).heap.size/\(t'=true->sumL d y.n<sumL d' y.n)/\(t'=false->d'=d/\∀ p,p<k->¬ y.Can d p)):=⟨OZ.1.below (below_regrown wz dd os) OZ.2.1,zL OZ.2.1 (below_regrown wz dd os).size,OZ.2.2⟩
          clear z0' z1' dk' dq' b3' ch' cq' z0 z1 dk dq b3 ch cq ks qs HCk HCq OZ;generalize grow (redrawn wz dd) os=wq at *
          have HCan:Hid (y.Can d' k ↔ cnt (y.e k) 3 q (d' k)<cnt (y.e q) 2 k (d' q)):=by
           show y.Can d' k ↔ _;unfold Hs.Can;rw [HQE.out];rw [show ((q:Int)).toNat=q by omega];exact ⟨fun h=>h.2 HK3.out,fun h=>⟨hkl,fun _=>h⟩⟩
          generalize cnt (y.e k) 3 q (d' k)=c1 at *;generalize cnt (y.e q) 2 k (d' q)=c2 at *;by_cases hcc:(c2:Int)<=(c1:Int)
          ·have HNo:Hid (¬ y.Can d' k):=fun h=>by have:=HCan.1 h;omega
           have HJ2 : Hid (Od w wq w.heap.size D ha hc y d' ∧ D < wq.heap.size ∧ (t' = true → sumL d y.n < sumL d' y.n) ∧ (t' = false → d' = d ∧ ∀ p, p < k + 1 → ¬ y.Can d p)) := ⟨OQ.1, OQ.2.1, OQ.2.2.1, fun h => ⟨(OQ.2.2.2 h).1, fun p hp => by
            have h5:=OQ.2.2.2 h;by_cases e:p=k
            ·subst e
             rw [<- h5.1];exact HNo.out
            ·exact h5.2 p (by omega)⟩⟩
           clear OQ HCan;go_wp2;go_roundw
           case rel=>exact ⟨k+1,t',d',by omega,by go_num,rfl,rfl,HJ2.out⟩
           case measure=>simp [intOf];omega
          ·have HCx:Hid (y.Can d' k):=HCan.2 (by omega)
           clear HCan;have HCn:Hid (y.Can d' k):=HCx.out;have HPu:Hid (y.Put (up d' k)):=.next OQ.1.pu hlt HCn.out;have hsu:=ql0 (d:=d') hlt;have hsl:=qd6 HPu.out.le y.n
           have HLE:Hid (((sumL y.l y.n - sumL d' y.n:Nat):Int) - 1=((sumL y.l y.n - sumL (up d' k) y.n:Nat):Int)):=by
            show ((sumL y.l y.n - sumL d' y.n:Nat):Int) - 1=((sumL y.l y.n - sumL (up d' k) y.n:Nat):Int);omega
           have hA1:((sumL y.l y.n - sumL d' y.n:Nat):Int)<=1000:=by have:=HSM.out;omega
           have hA0:(1:Int)<=((sumL y.l y.n - sumL d' y.n:Nat):Int):=by omega
           have HNx : Hid (Od w (wq.setCell ⟨D, k, none⟩ (.int .i64 ((d' k : Int) + 1))) w.heap.size D ha hc y (up d' k) ∧ D < (wq.setCell ⟨D, k, none⟩ (.int .i64 ((d' k : Int) + 1))).heap.size ∧ (true = true → sumL d y.n < sumL (up d' k) y.n) ∧ (true = false → up d' k = d ∧ ∀ p, p < k + 1 → ¬ y.Can d p)) := ⟨OQ.1.set hlt HCn.out (by have := HDW.out; omega) (by have := HDW.out; omega), by simpa [World.setCell] using OQ.2.1, (fun _ => by
            rcases zK t' with h5 | h5
            ·have:=OQ.2.2.1 h5
             omega
            ·have:=(OQ.2.2.2 h5).1
             rw [this] at hsu ⊢
             omega),(fun h=>by cases h)⟩
           have dkq:=OQ.1.od.c k hlt;have frq:=OQ.1.od.fr;clear hsu hsl OQ;generalize hAA:((sumL y.l y.n - sumL d' y.n:Nat):Int)=AA at *;clear hAA;go_wp2;go_roundw
           case rel=>exact ⟨k+1,true,up d' k,by omega,by go_num,rfl,by rw [HLE.out],HNx.out⟩
           case measure=>simp [intOf];omega
      ·have hkn:k=y.n:=by omega
       subst hkn
       have HF:Hid (2*(sumL y.l y.n - sumL d' y.n)+(if t'=true then 1 else 0)<gk):=by
        have h2:=HGN.out;have h3:=qd6 HJ.1.pu.le y.n;show _<gk;cases t' with
        | true=>
         have h4:=HJ.2.2.1 rfl;simp only [if_true];omega
        | false=>
         have h4:=(HJ.2.2.2 rfl).1;rw [h4];simp only [Bool.false_eq_true,if_false];omega
       have HG2 : Hid (Od w wr w.heap.size D ha hc y d' ∧ D < wr.heap.size ∧ (t' = false → ∀ p, p < y.n → ¬ y.Can d' p)) := ⟨HJ.1, HJ.2.1, fun h p hp => by
        have:=HJ.2.2.2 h;rw [this.1]
        exact this.2 p hp⟩
       clear HJ;go_wp2
       go_roundg (2*(sumL y.l y.n - sumL d' y.n)+(if t'=true then 1 else 0))
       case measure=>exact HF.out
       case rel=>exact ⟨t',d',rfl,rfl,rfl,HG2.out⟩
    ·have HR:Hid ((((sumL y.l y.n - sumL d y.n:Nat):Int) == 0)=qB y.Row):=by
      show (((sumL y.l y.n - sumL d y.n:Nat):Int) == 0)=qB y.Row;have hi:=Hs.row_iff HI.1.pu HH.1 (HI.2.2 rfl);have hle:=HI.1.pu.le;by_cases hr:y.Row
      ·have:sumL d y.n=sumL y.l y.n:=qiy fun i hi'=>hi.1 hr i hi'
       rw [qbs hr,this];simp
      ·rw [qa4 hr]
       have:sumL y.l y.n - sumL d y.n≠0:=fun e=>hr (hi.2 (qw9 hle _ (by have:=qd6 hle y.n;omega)));have h2:((sumL y.l y.n - sumL d y.n:Nat):Int)≠0:=by omega
       simpa using h2
     have HB:Hid (Below w.heap.size w wr):=HI.1.be;clear HI hgn;go_wp2;go_ret;rw [HR.out];exact ⟨rfl,HB.out⟩
def ZAt (w:World) (b off len:Nat) (h:Nat->Int):Prop:=∀ i,i<len->w.cell? ⟨b,off+i,none⟩=some (.int .i64 (h i))
theorem ZAt.below {w w':World} {B b off len:Nat} {h:Nat->Int} (hh:ZAt w b off len h) (hb:Below B w w') (hB:b<B):ZAt w' b off len h:=fun i hi=>(hb.cell hB).trans (hh i hi)
theorem qce (a0:Option Addr) (len cap:Nat) (L:Int) (w:World) (h:(len:Int)<=L) (hL:L<=1048576):
  Calls Tryz.prog 52 #[.slice a0 len cap,.int .i64 L] w fun e w'=>e=.returned (.int .i64 (L - (len:Int)))/\w'=w:=by
 have h1:(len:Int)<=1048576:=by omega
 have h2:0<=L:=by omega
 have h3:¬ (L - (len:Int)<0):=by omega
 go_enter Tryz.func52,Tryz.ntmps52
 go_wp2;go_ret;exact ⟨rfl,rfl⟩
theorem qf2 (a0:Option Addr) (len cap:Nat) (L:Int) (w:World) (h:L<(len:Int)) (h0:0<=L) (hL:L<=1048576) (hm:len<=maxLen):
  Calls Tryz.prog 52 #[.slice a0 len cap,.int .i64 L] w fun e w'=>e=.returned (.int .i64 (-1))/\w'=w:=by
 unfold maxLen at hm;have h2:(len:Int)<=9223372036854775807:=by omega
 have h3:L - (len:Int)<0:=by omega
 go_enter Tryz.func52,Tryz.ntmps52
 go_wp2;go_ret;exact ⟨rfl,rfl⟩
theorem qqa (w:World) (n:Nat):(w.alloc (.cells (madeCells #[.int .i64 0] n) 3)).rowIs w.heap.size 3 n (fun _=>.int .i64 0):=by
 refine ⟨_,blk_alloc_new _ _,size_madeCells _ _,fun i hi=>?_⟩;simp only [madeCells];rw [Array.getElem?_map,Array.getElem?_range,if_pos hi];have:i % 1=0:=Nat.mod_one i;exact congrArg some (by simp [this])
theorem qq0 (b off len cap:Nat) (h:Nat->Int) (w:World) (hlen:len<=1048576) (hb:b<w.heap.size) (hc:ZAt w b off len h):
  Calls Tryz.prog 61 #[.slice (some ⟨b,off,none⟩) len cap] w fun e w'=>e=.returned (.slice (some ⟨w.heap.size,0,none⟩) len len)/\ZAt w' w.heap.size 0 len h/\w.heap.size<w'.heap.size/\Below w.heap.size w w'/\∀ j,w'.frozen? ⟨w.heap.size,j,none⟩=false:=by
 have hl':(len:Int)<=1048576:=by omega
 have hmk:=qb9 len hlen;have HC:Hid (ZAt w b off len h):=hc;clear hc
 go_enter Tryz.func61,Tryz.ntmps61
 go_wp2_with fail
 clear hmk
 go_loopw [4] (fun i wr=>∃ k:Nat,k<=len/\i=.int .i64 k/\(∃ f,wr.rowIs w.heap.size 3 len f/\Hid (∀ i,i<k->f i=.int .i64 (h i)))/\Below w.heap.size w wr) (fun i _=>len - (intOf i).toNat)
 case atStart=>exact ⟨0,Nat.zero_le _,rfl,⟨_,qqa w len,fun i hi=>by omega⟩,(Below.refl _ _).alloc (Nat.le_refl _) _⟩
 case round=>
  obtain ⟨k,hk,rfl,⟨f,hrow,HF⟩,hbw⟩:=hrel;have hs:=hrow.lt;by_cases hlt:k<len
  ·have hlt':(k:Int)<(len:Int):=by omega
   have ck:=HC.out.below hbw hb k hlt;have f0:=hrow.frozen k;have g0:=hrow.cell (i:=k) hlt;have HR:Hid (wr.rowIs w.heap.size 3 len f):=hrow;clear hrow;go_wp2;go_roundw
   case rel=>
    refine ⟨k+1,by omega,by go_num,⟨_,HR.out.set _ _,fun i hi=>?_⟩,hbw.setCell (Nat.le_refl _) _⟩;by_cases e:i=k
    ·subst e;simp
    ·rw [if_neg e];exact HF.out i (by omega)
   case measure=>simp [intOf];omega
  ·have hkl:k=len:=by omega
   have HI:Hid (ZAt wr w.heap.size 0 len h):=fun i hi=>by
    rw [Nat.zero_add,hrow.cell hi,HF.out i (by omega)]
   have HZ:Hid (∀ j,wr.frozen? ⟨w.heap.size,j,none⟩=false):=fun j=>hrow.frozen j;clear hkl HF hrow;go_wp2;go_ret;exact ⟨rfl,HI.out,hs,hbw,HZ.out⟩
theorem qhr (a0:Option Addr) (cap:Nat) (h:Nat->Int) (w:World):
  Calls Tryz.prog 61 #[.slice a0 0 cap] w fun e w'=>e=.returned (.slice (some ⟨w.heap.size,0,none⟩) 0 0)/\ZAt w' w.heap.size 0 0 h/\w.heap.size<w'.heap.size/\Below w.heap.size w w'/\∀ j,w'.frozen? ⟨w.heap.size,j,none⟩=false:=by
 have hmk:∀ w:World,(Instr.makeSlice 28 (.int .i64 0) (.int .i64 0)).run Tryz.prog w=.ok (.slice (some ⟨w.heap.size,0,none⟩) 0 0) (w.alloc (.cells (madeCells #[.int .i64 0] 0) 3)):=fun w=>qb9 0 (by omega) w
 go_enter Tryz.func61,Tryz.ntmps61
 go_wp2_with fail
 clear hmk
 go_rounds 1
 go_ret;exact ⟨rfl,fun i hi=>by omega,by simp,(Below.refl _ _).alloc (Nat.le_refl _) _,fun j=>yA _ _ _ j rfl⟩
def qh0 (w:World) (a0:Option Addr) (len cap:Nat) (h:Nat->Int):Prop:=∀ wx,Below w.heap.size w wx->
 Calls Tryz.prog 61 #[.slice a0 len cap] wx fun e w'=>e=.returned (.slice (some ⟨wx.heap.size,0,none⟩) len len)/\ZAt w' wx.heap.size 0 len h/\wx.heap.size<w'.heap.size/\Below wx.heap.size wx w'/\∀ j,w'.frozen? ⟨wx.heap.size,j,none⟩=false
theorem qjz {W:World} {a0:Option Addr} {len cap:Nat} (hl:len<=1048576) (hr:len=0\/∃ b off h,a0=some ⟨b,off,none⟩/\b<W.heap.size/\ZAt W b off len h):∃ h,qh0 W a0 len cap h:=by
 rcases hr with rfl | ⟨b,off,h,rfl,hb,hI⟩
 ·exact ⟨fun _=>0,fun wx _=>qhr a0 cap _ wx⟩
 ·exact ⟨h,fun wx hB=>qq0 b off len cap h wx hl (zL hb hB.size) (hI.below hB hb)⟩
theorem qg3 (b1 b2 len c1 c2:Nat) (h:Nat->Int) (w:World) (hlen:len<=1048576) (hb1:b1<w.heap.size) (hb2:b2<w.heap.size) (hc1:ZAt w b1 0 len h) (hc2:ZAt w b2 0 len h):
  Calls Tryz.prog 84 #[.slice (some ⟨b1,0,none⟩) len c1,.slice (some ⟨b2,0,none⟩) len c2] w fun e w'=>e=.returned (.bool true)/\Below w.heap.size w w':=by
 have hl':(len:Int)<=1048576:=by omega
 have HC1:Hid (ZAt w b1 0 len h):=hc1;have HC2:Hid (ZAt w b2 0 len h):=hc2;clear hc1 hc2
 go_enter Tryz.func84,Tryz.ntmps84
 go_wp2_with fail
 go_loopw [5] (fun i wr=>∃ k:Nat,k<=len/\i=.int .i64 k/\Below w.heap.size w wr) (fun i _=>len - (intOf i).toNat)
 case atStart=>exact ⟨0,Nat.zero_le _,rfl,Below.refl _ _⟩
 case round=>
  obtain ⟨k,hk,rfl,hbw⟩:=hrel;by_cases hlt:k<len
  ·have c0:=HC1.out.below hbw hb1 k hlt
   have d0:=HC2.out.below hbw hb2 k hlt;have hlt':(k:Int)<(len:Int):=by omega
   rw [Nat.zero_add] at c0 d0;go_wp2_with fail
   go_quiet (fail)
   go_wp2;go_roundw
   case rel=>exact ⟨k+1,by omega,by go_num,yB hbw _⟩
   case measure=>simp [intOf];omega
  ·go_wp2
   go_ret;exact ⟨rfl,hbw⟩
def qcr (w:World) (b len:Nat):Prop:=(∀ i,i<len->∃ u,w.cell? ⟨b,i,none⟩=some u)/\∀ j,w.frozen? ⟨b,j,none⟩=false
theorem qcr.set {w:World} {b len:Nat} (h:qcr w b len) (p:Addr) (v:Value):qcr (w.setCell p v) b len:=
 ⟨fun i hi=>(h.1 i hi).elim fun _ e=>cell?_setCell_some e,fun j=>by rw [World.frozen?_setCell];exact h.2 j⟩
theorem qcr.of_z {w:World} {b len:Nat} {h:Nat->Int} (hh:ZAt w b 0 len h) (hf:∀ j,w.frozen? ⟨b,j,none⟩=false):qcr w b len:=
 ⟨fun i hi=>⟨.int .i64 (h i),by have:=hh i hi;rw [Nat.zero_add] at this;exact this⟩,hf⟩
theorem qfm (b len cap:Nat) (k:Int) (w:World) (hlen:len<=1048576) (k0:0<=k) (k1:k<=100000000) (h:qcr w b len):
  Calls Tryz.prog 91 #[.slice (some ⟨b,0,none⟩) len cap,.int .i64 k] w fun e w'=>e=.returned (.int .i64 (k+len))/\w.grownBy w' (some b):=by
 have hl':(len:Int)<=1048576:=by omega
 have HO:Hid (qcr w b len):=h;clear h
 go_enter Tryz.func91,Tryz.ntmps91
 go_wp2_with fail
 go_loopw [1,5] (fun q i wr=>∃ j:Nat,j<=len/\i=.int .i64 j/\q=.int .i64 (k+j)/\Hid (qcr wr b len/\w.grownBy wr (some b))) (fun _ i _=>len - (intOf i).toNat)
 case atStart=>exact ⟨0,Nat.zero_le _,rfl,by simp,HO.out,World.grownBy.refl _ _⟩
 case round=>
  clear HO;obtain ⟨j,hj,rfl,rfl,HR⟩:=hrel;by_cases hlt:j<len
  ·have hlt':(j:Int)<(len:Int):=by omega
   obtain ⟨u0,c0⟩:=HR.1.1 j hlt;have fz:=HR.1.2;go_wp2;go_roundw
   case rel=>
    refine ⟨j+1,by omega,by go_num,by go_num,?_⟩;exact ⟨HR.1.set _ _,zU HR.2 (.inl rfl) _⟩
   case measure=>simp [intOf];omega
  ·have hlt':¬ (j:Int)<(len:Int):=by omega
   have HF:Hid (w.grownBy wr (some b)):=HR.2;have hjl:(j:Int)=len:=by omega
   have HJ:Hid ((j:Int)=len):=hjl;clear HR hjl;go_wp2;go_ret;exact ⟨qe7 (by rw [HJ.out]),HF.out⟩
theorem qn4 {H:Type} {enc:TypeId × Value->H} {w:World} {spare:Nat->Bool} {held:Bool} {base:Nat} {a0:Option Addr} {len cap:Nat} {d:DataW H} {p:List MemPlace}
  (h:DataW.Trod enc Tryz.prog w base spare held 28 (.slice a0 len cap) d p):
  len<=maxLen/\(len=0\/∃ b off h,a0=some ⟨b,off,none⟩/\b<w.heap.size/\ZAt w b off len h):=by
 obtain ⟨hm,f,hr,hf⟩:=qdg Tryz.underlying28 (el:=3) (by kernel_rfl) h;refine ⟨hm,?_⟩
 rcases hr with h0 | ⟨b,off,e,hb,hc⟩
 ·exact .inl h0
 right
 have hq:∀ i,i<len->∃ x:Int,f i=.int .i64 x:=by
  intro i hi;obtain ⟨m,x,hx⟩:=hf i hi;obtain ⟨z0,e0,-,-⟩:=DataW.trod_int Tryz.underlying3 hx;simp only [List.cons.injEq,and_true] at e0;exact ⟨z0,e0⟩
 have inh:Inhabited Int:=⟨0⟩
 obtain ⟨g,hg⟩:=Go.Deep.choose_lt (α:=Int) hq;exact ⟨b,off,g,e,hb,fun i hi=>(hc i hi).trans (by rw [hg i hi])⟩
def BlAt (w:World) (b off len:Nat) (h:Nat->Bool):Prop:=∀ i,i<len->w.cell? ⟨b,off+i,none⟩=some (.bool (h i))
theorem BlAt.below {w w':World} {B b off len:Nat} {h:Nat->Bool} (hh:BlAt w b off len h) (hb:Below B w w') (hB:b<B):BlAt w' b off len h:=fun i hi=>(hb.cell hB).trans (hh i hi)
theorem qwg:(Tryz.prog.info? 4).map (fun i=>(i.zero,i.size,i.bytes))=some (some (.bool false),1,1):=by kernel_rfl
theorem qfx (n:Nat) (hn:n<=1048576) (w:World):
  (Instr.makeSlice 29 (.int .i64 (n:Int)) (.int .i64 (n:Int))).run Tryz.prog w=.ok (.slice (some ⟨w.heap.size,0,none⟩) n n) (w.alloc (.cells (madeCells #[.bool false] n) 4)):=by
 have hinfo:=qwg;cases hi:Tryz.prog.info? 4 with
 | none=>rw [hi] at hinfo;cases hinfo
 | some i=>
  rw [hi] at hinfo;simp only [Option.map_some,Option.some.injEq,Prod.mk.injEq] at hinfo;obtain ⟨hz,hs,hb⟩:=hinfo;have h:=run_make (P:=Tryz.prog) w 29 4 i _ Tryz.underlying29 hi hz .i64 .i64 (n:Int) (n:Int) (by omega) (Int.le_refl _) (by rw [hb];omega) (by omega);rw [hs] at h;simpa [Value.cells] using h
theorem qer (a0:Option Addr) (len cap:Nat) (L:Int) (w:World) (h:(len:Int)<=L) (hL:L<=1048576):
  Calls Tryz.prog 53 #[.slice a0 len cap,.int .i64 L] w fun e w'=>e=.returned (.int .i64 (L - (len:Int)))/\w'=w:=by
 have h1:(len:Int)<=1048576:=by omega
 have h2:0<=L:=by omega
 have h3:¬ (L - (len:Int)<0):=by omega
 go_enter Tryz.func53,Tryz.ntmps53
 go_wp2;go_ret;exact ⟨rfl,rfl⟩
theorem qju (a0:Option Addr) (len cap:Nat) (L:Int) (w:World) (h:L<(len:Int)) (h0:0<=L) (hL:L<=1048576) (hm:len<=maxLen):
  Calls Tryz.prog 53 #[.slice a0 len cap,.int .i64 L] w fun e w'=>e=.returned (.int .i64 (-1))/\w'=w:=by
 unfold maxLen at hm;have h2:(len:Int)<=9223372036854775807:=by omega
 have h3:L - (len:Int)<0:=by omega
 go_enter Tryz.func53,Tryz.ntmps53
 go_wp2;go_ret;exact ⟨rfl,rfl⟩
theorem qno (w:World) (n:Nat):(w.alloc (.cells (madeCells #[.bool false] n) 4)).rowIs w.heap.size 4 n (fun _=>.bool false):=by
 refine ⟨_,blk_alloc_new _ _,size_madeCells _ _,fun i hi=>?_⟩;simp only [madeCells];rw [Array.getElem?_map,Array.getElem?_range,if_pos hi];have:i % 1=0:=Nat.mod_one i;exact congrArg some (by simp [this])
theorem qot (b off len cap:Nat) (h:Nat->Bool) (w:World) (hlen:len<=1048576) (hb:b<w.heap.size) (hc:BlAt w b off len h):
  Calls Tryz.prog 62 #[.slice (some ⟨b,off,none⟩) len cap] w fun e w'=>e=.returned (.slice (some ⟨w.heap.size,0,none⟩) len len)/\BlAt w' w.heap.size 0 len h/\w.heap.size<w'.heap.size/\Below w.heap.size w w'/\∀ j,w'.frozen? ⟨w.heap.size,j,none⟩=false:=by
 have hl':(len:Int)<=1048576:=by omega
 have hmk:=qfx len hlen;have HC:Hid (BlAt w b off len h):=hc;clear hc
 go_enter Tryz.func62,Tryz.ntmps62
 go_wp2_with fail
 clear hmk
 go_loopw [4] (fun i wr=>∃ k:Nat,k<=len/\i=.int .i64 k/\(∃ f,wr.rowIs w.heap.size 4 len f/\Hid (∀ i,i<k->f i=.bool (h i)))/\Below w.heap.size w wr) (fun i _=>len - (intOf i).toNat)
 case atStart=>exact ⟨0,Nat.zero_le _,rfl,⟨_,qno w len,fun i hi=>by omega⟩,(Below.refl _ _).alloc (Nat.le_refl _) _⟩
 case round=>
  obtain ⟨k,hk,rfl,⟨f,hrow,HF⟩,hbw⟩:=hrel;have hs:=hrow.lt;by_cases hlt:k<len
  ·have hlt':(k:Int)<(len:Int):=by omega
   have ck:=HC.out.below hbw hb k hlt;have f0:=hrow.frozen k;have g0:=hrow.cell (i:=k) hlt;have HR:Hid (wr.rowIs w.heap.size 4 len f):=hrow;clear hrow;go_wp2;go_roundw
   case rel=>
    refine ⟨k+1,by omega,by go_num,⟨_,HR.out.set _ _,fun i hi=>?_⟩,hbw.setCell (Nat.le_refl _) _⟩;by_cases e:i=k
    ·subst e;simp
    ·rw [if_neg e];exact HF.out i (by omega)
   case measure=>simp [intOf];omega
  ·have hkl:k=len:=by omega
   have HI:Hid (BlAt wr w.heap.size 0 len h):=fun i hi=>by
    rw [Nat.zero_add,hrow.cell hi,HF.out i (by omega)]
   have HZ:Hid (∀ j,wr.frozen? ⟨w.heap.size,j,none⟩=false):=fun j=>hrow.frozen j;clear hkl HF hrow;go_wp2;go_ret;exact ⟨rfl,HI.out,hs,hbw,HZ.out⟩
theorem qgn (a0:Option Addr) (cap:Nat) (h:Nat->Bool) (w:World):
  Calls Tryz.prog 62 #[.slice a0 0 cap] w fun e w'=>e=.returned (.slice (some ⟨w.heap.size,0,none⟩) 0 0)/\BlAt w' w.heap.size 0 0 h/\w.heap.size<w'.heap.size/\Below w.heap.size w w'/\∀ j,w'.frozen? ⟨w.heap.size,j,none⟩=false:=by
 have hmk:∀ w:World,(Instr.makeSlice 29 (.int .i64 0) (.int .i64 0)).run Tryz.prog w=.ok (.slice (some ⟨w.heap.size,0,none⟩) 0 0) (w.alloc (.cells (madeCells #[.bool false] 0) 4)):=fun w=>qfx 0 (by omega) w
 go_enter Tryz.func62,Tryz.ntmps62
 go_wp2_with fail
 clear hmk
 go_rounds 1
 go_ret;exact ⟨rfl,fun i hi=>by omega,by simp,(Below.refl _ _).alloc (Nat.le_refl _) _,fun j=>yA _ _ _ j rfl⟩
def qt6 (w:World) (a0:Option Addr) (len cap:Nat) (h:Nat->Bool):Prop:=∀ wx,Below w.heap.size w wx->
 Calls Tryz.prog 62 #[.slice a0 len cap] wx fun e w'=>e=.returned (.slice (some ⟨wx.heap.size,0,none⟩) len len)/\BlAt w' wx.heap.size 0 len h/\wx.heap.size<w'.heap.size/\Below wx.heap.size wx w'/\∀ j,w'.frozen? ⟨wx.heap.size,j,none⟩=false
theorem qsj {W:World} {a0:Option Addr} {len cap:Nat} (hl:len<=1048576) (hr:len=0\/∃ b off h,a0=some ⟨b,off,none⟩/\b<W.heap.size/\BlAt W b off len h):∃ h,qt6 W a0 len cap h:=by
 rcases hr with rfl | ⟨b,off,h,rfl,hb,hI⟩
 ·exact ⟨fun _=>false,fun wx _=>qgn a0 cap _ wx⟩
 ·exact ⟨h,fun wx hB=>qot b off len cap h wx hl (zL hb hB.size) (hI.below hB hb)⟩
theorem qkp (b1 b2 len c1 c2:Nat) (h:Nat->Bool) (w:World) (hlen:len<=1048576) (hb1:b1<w.heap.size) (hb2:b2<w.heap.size) (hc1:BlAt w b1 0 len h) (hc2:BlAt w b2 0 len h):
  Calls Tryz.prog 85 #[.slice (some ⟨b1,0,none⟩) len c1,.slice (some ⟨b2,0,none⟩) len c2] w fun e w'=>e=.returned (.bool true)/\Below w.heap.size w w':=by
 have hl':(len:Int)<=1048576:=by omega
 have HC1:Hid (BlAt w b1 0 len h):=hc1;have HC2:Hid (BlAt w b2 0 len h):=hc2;clear hc1 hc2
 go_enter Tryz.func85,Tryz.ntmps85
 go_wp2_with fail
 go_loopw [5] (fun i wr=>∃ k:Nat,k<=len/\i=.int .i64 k/\Below w.heap.size w wr) (fun i _=>len - (intOf i).toNat)
 case atStart=>exact ⟨0,Nat.zero_le _,rfl,Below.refl _ _⟩
 case round=>
  obtain ⟨k,hk,rfl,hbw⟩:=hrel;by_cases hlt:k<len
  ·have c0:=HC1.out.below hbw hb1 k hlt
   have d0:=HC2.out.below hbw hb2 k hlt;have hlt':(k:Int)<(len:Int):=by omega
   rw [Nat.zero_add] at c0 d0;go_wp2_with fail
   go_quiet (fail)
   go_wp2;go_roundw
   case rel=>exact ⟨k+1,by omega,by go_num,yB hbw _⟩
   case measure=>simp [intOf];omega
  ·go_wp2
   go_ret;exact ⟨rfl,hbw⟩
theorem qcr.of_b {w:World} {b len:Nat} {h:Nat->Bool} (hh:BlAt w b 0 len h) (hf:∀ j,w.frozen? ⟨b,j,none⟩=false):qcr w b len:=
 ⟨fun i hi=>⟨.bool (h i),by have:=hh i hi;rw [Nat.zero_add] at this;exact this⟩,hf⟩
theorem qjk (b len cap:Nat) (k:Int) (w:World) (hlen:len<=1048576) (k0:0<=k) (k1:k<=100000000) (h:qcr w b len):
  Calls Tryz.prog 92 #[.slice (some ⟨b,0,none⟩) len cap,.int .i64 k] w fun e w'=>e=.returned (.int .i64 (k+len))/\w.grownBy w' (some b):=by
 have hl':(len:Int)<=1048576:=by omega
 have HO:Hid (qcr w b len):=h;clear h
 go_enter Tryz.func92,Tryz.ntmps92
 go_wp2_with fail
 go_loopw [1,5] (fun q i wr=>∃ j:Nat,j<=len/\i=.int .i64 j/\q=.int .i64 (k+j)/\Hid (qcr wr b len/\w.grownBy wr (some b))) (fun _ i _=>len - (intOf i).toNat)
 case atStart=>exact ⟨0,Nat.zero_le _,rfl,by simp,HO.out,World.grownBy.refl _ _⟩
 case round=>
  clear HO;obtain ⟨j,hj,rfl,rfl,HR⟩:=hrel;by_cases hlt:j<len
  ·have hlt':(j:Int)<(len:Int):=by omega
   obtain ⟨u0,c0⟩:=HR.1.1 j hlt;have fz:=HR.1.2;go_wp2;go_roundw
   case rel=>
    refine ⟨j+1,by omega,by go_num,by go_num,?_⟩;exact ⟨HR.1.set _ _,zU HR.2 (.inl rfl) _⟩
   case measure=>simp [intOf];omega
  ·have hlt':¬ (j:Int)<(len:Int):=by omega
   have HF:Hid (w.grownBy wr (some b)):=HR.2;have hjl:(j:Int)=len:=by omega
   have HJ:Hid ((j:Int)=len):=hjl;clear HR hjl;go_wp2;go_ret;exact ⟨qe7 (by rw [HJ.out]),HF.out⟩
theorem qu7 {H:Type} {enc:TypeId × Value->H} {w:World} {spare:Nat->Bool} {held:Bool} {base:Nat} {a0:Option Addr} {len cap:Nat} {d:DataW H} {p:List MemPlace}
  (h:DataW.Trod enc Tryz.prog w base spare held 29 (.slice a0 len cap) d p):
  len<=maxLen/\(len=0\/∃ b off h,a0=some ⟨b,off,none⟩/\b<w.heap.size/\BlAt w b off len h):=by
 obtain ⟨hm,f,hr,hf⟩:=qdg Tryz.underlying29 (el:=4) (by kernel_rfl) h;refine ⟨hm,?_⟩
 rcases hr with h0 | ⟨b,off,e,hb,hc⟩
 ·exact .inl h0
 right
 have hq:∀ i,i<len->∃ x:Bool,f i=.bool x:=by
  intro i hi;obtain ⟨m,x,hx⟩:=hf i hi;obtain ⟨z0,e0,-⟩:=DataW.trod_bool Tryz.underlying4 hx;simp only [List.cons.injEq,and_true] at e0;exact ⟨z0,e0⟩
 have inh:Inhabited Bool:=⟨false⟩
 obtain ⟨g,hg⟩:=Go.Deep.choose_lt (α:=Bool) hq;exact ⟨b,off,g,e,hb,fun i hi=>(hc i hi).trans (by rw [hg i hi])⟩
structure qbo (w:World) (D hi n:Nat) (ls:Nat->Nat) (bs:Nat->Nat) (h:Nat->Nat->Int):Prop where
 cel:∀ i,i<n->w.cell? ⟨D,i,none⟩=some (.slice (some ⟨bs i,0,none⟩) (ls i) (ls i))
 bd:∀ i,i<n->D<bs i/\bs i<hi
 row:∀ i,i<n->ZAt w (bs i) 0 (ls i) (h i)
 fr:∀ i,i<n->∀ j,w.frozen? ⟨bs i,j,none⟩=false
 up:∀ i j,i<j->j<n->bs i<bs j
 le:hi<=w.heap.size
 lt:D<hi
theorem qbo.below {w w':World} {D hi n B:Nat} {ls:Nat->Nat} {bs:Nat->Nat} {h:Nat->Nat->Int} (o:qbo w D hi n ls bs h) (hb:Below B w w') (hB:hi<=B):qbo w' D hi n ls bs h:=
 ⟨fun i hi'=>(hb.cell (p:=⟨D,i,none⟩) (zL o.lt hB)).trans (o.cel i hi'),o.bd,fun i hi'=>(o.row i hi').below hb (zL (o.bd i hi').2 hB),fun i hi' j=>(hb.frozen (p:=⟨bs i,j,none⟩) (zL (o.bd i hi').2 hB)).trans (o.fr i hi' j),o.up,zO o.le hb.size,o.lt⟩
theorem qbo.keep {w w':World} {D hi n:Nat} {ls:Nat->Nat} {bs:Nat->Nat} {h:Nat->Nat->Int} (o:qbo w D hi n ls bs h) (hs:w.heap.size<=w'.heap.size) (hb:∀ k,D<=k->k<hi->w'.heap[k]? = w.heap[k]?):qbo w' D hi n ls bs h:=by
 refine ⟨fun i hi'=>(zH (hb D (Nat.le_refl _) o.lt)).trans (o.cel i hi'),o.bd,fun i hi'=>?_,fun i hi' j=>(zI (hb _ (Nat.le_of_lt (o.bd i hi').1) (o.bd i hi').2)).trans (o.fr i hi' j),o.up,zO o.le hs,o.lt⟩;have hc:∀ j,w'.cell? ⟨bs i,j,none⟩=w.cell? ⟨bs i,j,none⟩:=fun j=>zH (hb _ (Nat.le_of_lt (o.bd i hi').1) (o.bd i hi').2);intro t ht;have:=o.row i hi' t ht;simp only [hc];exact this
theorem ql4 (a0:Option Addr) (n cap:Nat) (aa:Nat->Option Addr) (ls cs:Nat->Nat) (L:Int) (w:World) (hr:RowS w a0 n fun i=>.slice (aa i) (ls i) (cs i)) (h:(n:Int)+(sumL ls n:Nat)<=L) (hL:L<=1048576):
  Calls Tryz.prog 54 #[.slice a0 n cap,.int .i64 L] w fun e w'=>e=.returned (.int .i64 (L - n - (sumL ls n:Nat)))/\w'=w:=by
 have hn:(n:Int)<=1048576:=by omega
 have h0:0<=L:=by omega
 have hn0:¬ (L - (n:Int)<0):=by omega
 have HR:Hid (RowS w a0 n fun i=>.slice (aa i) (ls i) (cs i)):=hr;have HS:Hid ((n:Int)+(sumL ls n:Nat)<=L):=h;clear hr h
 go_enter Tryz.func54,Tryz.ntmps54
 go_wp2_with fail
 go_loopw [1,5] (fun q i wr=>∃ k:Nat,k<=n/\i=.int .i64 k/\q=.int .i64 (L - n - (sumL ls k:Nat))/\wr=w) (fun _ i _=>n - (intOf i).toNat)
 case atStart=>exact ⟨0,Nat.zero_le _,rfl,by simp [sumL],rfl⟩
 case round=>
  obtain ⟨k,hk,rfl,rfl,rfl⟩:=hrel;by_cases hlt:k<n
  ·have hlt':(k:Int)<(n:Int):=by omega
   obtain ⟨b,off,rfl,ck⟩:=HR.out.at hlt;have hsl:=qbc ls hlt;have hS:=HS.out;have e1:(L - n - (sumL ls k:Nat)) - (ls k:Int)=L - n - (sumL ls (k+1):Nat):=by simp only [sumL];omega
   have HE:Hid ((L - n - (sumL ls k:Nat)) - (ls k:Int)=L - n - (sumL ls (k+1):Nat)):=e1;have e2:(ls k:Int)<=L - n - (sumL ls k:Nat):=by omega
   have e3:¬ (L - n - (sumL ls (k+1):Nat)<0):=by omega
   have e4:L - n - (sumL ls k:Nat)<=1048576:=by omega
   clear e1 hS hsl;generalize hy:L - n - (sumL ls (k+1):Nat)=Y at *;go_wp2_with fail
   refine (qce _ _ _ _ _ e2 e4).mono ?_;rintro e w1 ⟨rfl,rfl⟩;rw [HE.out];clear e2 e4;go_wp2;go_roundw
   case rel=>exact ⟨k+1,by omega,by go_num,by rw [<- hy],by trivial⟩
   case measure=>simp [intOf];omega
  ·have hkl:k=n:=by omega
   subst hkl;go_wp2;go_ret;exact ⟨rfl,rfl⟩
theorem ql3 (a0:Option Addr) (n cap:Nat) (aa:Nat->Option Addr) (ls cs:Nat->Nat) (L:Int) (w:World) (hr:RowS w a0 n fun i=>.slice (aa i) (ls i) (cs i)) (h:L<(n:Int)+(sumL ls n:Nat)) (h0:0<=L) (hL:L<=1048576) (hm:n<=maxLen) (hl:∀ i,i<n->ls i<=maxLen):
  Calls Tryz.prog 54 #[.slice a0 n cap,.int .i64 L] w fun e w'=>e=.returned (.int .i64 (-1))/\w'=w:=by
 have hm':(n:Int)<=9223372036854775807:=by unfold maxLen at hm;omega
 by_cases hn0:L - (n:Int)<0
 ·go_enter Tryz.func54,Tryz.ntmps54
  go_wp2;go_ret;exact ⟨rfl,rfl⟩
 have hn:(n:Int)<=1048576:=by omega
 have HR:Hid (RowS w a0 n fun i=>.slice (aa i) (ls i) (cs i)):=hr;have HS:Hid (L<(n:Int)+(sumL ls n:Nat)):=h;have HL:Hid (∀ i,i<n->ls i<=maxLen):=hl;clear hr h hl hm
 go_enter Tryz.func54,Tryz.ntmps54
 go_wp2_with fail
 go_loopw [1,5] (fun q i wr=>∃ k:Nat,k<=n/\i=.int .i64 k/\q=.int .i64 (L - n - (sumL ls k:Nat))/\0<=L - n - (sumL ls k:Nat)/\wr=w) (fun _ i _=>n - (intOf i).toNat)
 case atStart=>exact ⟨0,Nat.zero_le _,rfl,by simp [sumL],by simp only [sumL];omega,rfl⟩
 case round=>
  obtain ⟨k,hk,rfl,rfl,hp,rfl⟩:=hrel;by_cases hlt:k<n
  ·have hlt':(k:Int)<(n:Int):=by omega
   obtain ⟨b,off,rfl,ck⟩:=HR.out.at hlt;have hml:=HL.out k hlt;have e1:(L - n - (sumL ls k:Nat)) - (ls k:Int)=L - n - (sumL ls (k+1):Nat):=by simp only [sumL];omega
   have HE:Hid ((L - n - (sumL ls k:Nat)) - (ls k:Int)=L - n - (sumL ls (k+1):Nat)):=e1;have e4:L - n - (sumL ls k:Nat)<=1048576:=by omega
   clear e1;by_cases hb:(ls k:Int)<=L - n - (sumL ls k:Nat)
   ·have e3:0<=L - n - (sumL ls (k+1):Nat):=by have:=HE.out;omega
    have e3':¬ (L - n - (sumL ls (k+1):Nat)<0):=by omega
    generalize hy:L - n - (sumL ls (k+1):Nat)=Y at *;go_wp2_with fail
    refine (qce _ _ _ _ _ hb e4).mono ?_;rintro e w1 ⟨rfl,rfl⟩;rw [HE.out];clear hb e4 hml hp;go_wp2;go_roundw
    case rel=>exact ⟨k+1,by omega,by go_num,by rw [<- hy],by omega,by trivial⟩
    case measure=>simp [intOf];omega
   ·have hb':L - n - (sumL ls k:Nat)<(ls k:Int):=by omega
    go_wp2_with fail
    refine (qf2 _ _ _ _ _ hb' hp e4 hml).mono ?_;rintro e w1 ⟨rfl,rfl⟩;clear hb hb' e4 hml hp HE;go_wp2;go_ret;exact ⟨rfl,rfl⟩
  ·have hkl:k=n:=by omega
   subst hkl;have:=HS.out;omega
theorem qwi:(Tryz.prog.info? 28).map (fun i=>(i.zero,i.size,i.bytes))=some (some (.slice none 0 0),1,24):=by kernel_rfl
theorem qlt (n:Nat) (hn:n<=1048576) (w:World):
  (Instr.makeSlice 30 (.int .i64 (n:Int)) (.int .i64 (n:Int))).run Tryz.prog w=.ok (.slice (some ⟨w.heap.size,0,none⟩) n n) (w.alloc (.cells (madeCells #[.slice none 0 0] n) 28)):=by
 have hinfo:=qwi;cases hi:Tryz.prog.info? 28 with
 | none=>rw [hi] at hinfo;cases hinfo
 | some i=>
  rw [hi] at hinfo;simp only [Option.map_some,Option.some.injEq,Prod.mk.injEq] at hinfo;obtain ⟨hz,hs,hb⟩:=hinfo;have h:=run_make (P:=Tryz.prog) w 30 28 i _ Tryz.underlying30 hi hz .i64 .i64 (n:Int) (n:Int) (by omega) (Int.le_refl _) (by rw [hb];omega) (by omega);rw [hs] at h;simpa [Value.cells] using h
theorem qnq (w:World) (n:Nat):(w.alloc (.cells (madeCells #[.slice none 0 0] n) 28)).rowIs w.heap.size 28 n (fun _=>.slice none 0 0):=by
 refine ⟨_,blk_alloc_new _ _,size_madeCells _ _,fun i hi=>?_⟩;simp only [madeCells];rw [Array.getElem?_map,Array.getElem?_range,if_pos hi];have:i % 1=0:=Nat.mod_one i;exact congrArg some (by simp [this])
structure qh2 (w:World) (D k:Nat) (f:Nat->Value) (ls:Nat->Nat) (bs:Nat->Nat) (h:Nat->Nat->Int):Prop where
 cel:∀ i,i<k->f i=.slice (some ⟨bs i,0,none⟩) (ls i) (ls i)
 bd:∀ i,i<k->D<bs i/\bs i<w.heap.size
 row:∀ i,i<k->ZAt w (bs i) 0 (ls i) (h i)
 fr:∀ i,i<k->∀ j,w.frozen? ⟨bs i,j,none⟩=false
 up:∀ i j,i<j->j<k->bs i<bs j
theorem qh2.step {w w1:World} {D k:Nat} {f:Nat->Value} {ls:Nat->Nat} {bs:Nat->Nat} {h:Nat->Nat->Int} (o:qh2 w D k f ls bs h) (hb:Below w.heap.size w w1) (hD:D<w.heap.size) (hz:w.heap.size<w1.heap.size) (hr:ZAt w1 w.heap.size 0 (ls k) (h k)) (hf:∀ j,w1.frozen? ⟨w.heap.size,j,none⟩=false) (u:Value):
  qh2 (w1.setCell ⟨D,k,none⟩ u) D (k+1) (fun i=>if i=k then .slice (some ⟨w.heap.size,0,none⟩) (ls k) (ls k) else f i) ls (fun i=>if i=k then w.heap.size else bs i) h:=by
 have hs:∀ b,b≠D->(w1.setCell ⟨D,k,none⟩ u).heap[b]? = w1.heap[b]?:=fun b hne=>zN _ _ _ _ hne;have hat:∀ b n g,b≠D->ZAt w1 b 0 n g->ZAt (w1.setCell ⟨D,k,none⟩ u) b 0 n g:=fun b n g hne hg=>fun i hi=>(zH (hs b hne)).trans (hg i hi);refine ⟨fun i hi=>?_,fun i hi=>?_,fun i hi=>?_,fun i hi j=>?_,fun i j hij hj=>?_⟩
 ·by_cases e:i=k
  ·subst e;simp
  ·simp only [if_neg e];exact o.cel i (by omega)
 ·by_cases e:i=k
  ·subst e;simp;omega
  ·simp only [if_neg e,World.size_setCell];have:=o.bd i (by omega);omega
 ·by_cases e:i=k
  ·subst e;simp only [if_true];exact hat _ _ _ (by omega) hr
  ·simp only [if_neg e];have hbd:=o.bd i (by omega);exact hat _ _ _ (by omega) ((o.row i (by omega)).below hb hbd.2)
 ·by_cases e:i=k
  ·subst e;simp only [if_true];rw [World.frozen?_setCell];exact hf j
  ·simp only [if_neg e];rw [World.frozen?_setCell];have hbd:=o.bd i (by omega);exact (hb.frozen (p:=⟨bs i,j,none⟩) hbd.2).trans (o.fr i (by omega) j)
 ·by_cases e:j=k
  ·have hi:i≠k:=by omega
   simp only [if_neg hi,if_pos e];exact (o.bd i (by omega)).2
  ·have hi:i≠k:=by omega
   simp only [if_neg hi,if_neg e];exact o.up i j hij (by omega)
structure qq5 (W:World) (a0:Option Addr) (n:Nat) (aa:Nat->Option Addr) (ls cs:Nat->Nat) (h:Nat->Nat->Int):Prop where
 row:RowS W a0 n fun i=>.slice (aa i) (ls i) (cs i)
 cop:∀ i,i<n->qh0 W (aa i) (ls i) (cs i) (h i)
theorem qqz (a0:Option Addr) (n cap:Nat) (aa:Nat->Option Addr) (ls cs:Nat->Nat) (h:Nat->Nat->Int) (W w:World) (hn:n<=1048576) (hA:qq5 W a0 n aa ls cs h) (hW:Below W.heap.size W w):
  Calls Tryz.prog 63 #[.slice a0 n cap] w fun e w'=>e=.returned (.slice (some ⟨w.heap.size,0,none⟩) n n)/\(∃ bs,qbo w' w.heap.size w'.heap.size n ls bs h)/\Below w.heap.size w w':=by
 have hl':(n:Int)<=1048576:=by omega
 have hmk:=qlt n hn;have HA:Hid (qq5 W a0 n aa ls cs h):=hA;have HW:Hid (Below W.heap.size W w):=hW;clear hA hW
 go_enter Tryz.func63,Tryz.ntmps63
 go_wp2_with fail
 clear hmk
 go_loopw [4] (fun i wr=>∃ k:Nat,k<=n/\i=.int .i64 k/\(∃ f,wr.rowIs w.heap.size 28 n f/\Hid (∃ bs,qh2 wr w.heap.size k f ls bs h))/\Below w.heap.size w wr) (fun i _=>n - (intOf i).toNat)
 case atStart=>exact ⟨0,Nat.zero_le _,rfl,⟨_,qnq w n,fun _=>0,fun i hi=>by omega,fun i hi=>by omega,fun i hi=>by omega,fun i hi=>by omega,fun i j hij hj=>by omega⟩,(Below.refl _ _).alloc (Nat.le_refl _) _⟩
 case round=>
  obtain ⟨k,hk,rfl,⟨f,hrow,HF⟩,hbw⟩:=hrel;have hs:=hrow.lt;by_cases hlt:k<n
  ·have hlt':(k:Int)<(n:Int):=by omega
   have HB:Hid (Below W.heap.size W wr):=HW.out.trans (hbw.mono HW.out.size);obtain ⟨b,off,rfl,ck⟩:=(HA.out.row.below HB.out).at hlt;have HR:Hid (wr.rowIs w.heap.size 28 n f):=hrow;clear hrow;go_wp2_with fail
   refine (HA.out.cop k hlt wr HB.out).mono ?_;rintro e w1 ⟨rfl,hi1,hz1,hb1,hf1⟩;have hr1:w1.rowIs w.heap.size 28 n f:=HR.out.of_block (hb1.block _ hs);have f0:=hr1.frozen k;have g0:=hr1.cell (i:=k) hlt;have HR1:Hid (w1.rowIs w.heap.size 28 n f):=hr1
   have HF1:Hid (∃ bs,qh2 (w1.setCell ⟨w.heap.size,k,none⟩ (.slice (some ⟨wr.heap.size,0,none⟩) (ls k) (ls k))) w.heap.size (k+1) (fun i=>if i=k then .slice (some ⟨wr.heap.size,0,none⟩) (ls k) (ls k) else f i) ls bs h):=by
    obtain ⟨bs,o⟩:=HF.out;exact ⟨_,o.step hb1 hs hz1 hi1 hf1 _⟩
   clear hr1 hi1 HF HR hf1;go_wp2_with fail
   exact ⟨⟨k+1,by omega,by go_num,⟨_,HR1.out.set _ _,HF1.out⟩,(hbw.trans (hb1.mono (Nat.le_of_lt hs))).setCell (Nat.le_refl _) _⟩,by simp [intOf];omega⟩
  ·have hkl:k=n:=by omega
   have HO:Hid (∃ bs,qbo wr w.heap.size wr.heap.size n ls bs h):=by
    obtain ⟨bs,o⟩:=HF.out;rw [hkl] at o;exact ⟨bs,fun i hi=>by rw [hrow.cell hi,o.cel i hi],o.bd,o.row,o.fr,o.up,Nat.le_refl _,hs⟩
   clear hkl HF hrow;go_wp2;go_ret;exact ⟨rfl,HO.out,hbw⟩
theorem qm5 (D1 h1 D2 h2 n c1 c2:Nat) (ls b1 b2:Nat->Nat) (h:Nat->Nat->Int) (w:World) (hn:n<=1048576) (hl:∀ i,i<n->ls i<=1048576) (o1:qbo w D1 h1 n ls b1 h) (o2:qbo w D2 h2 n ls b2 h):
  Calls Tryz.prog 86 #[.slice (some ⟨D1,0,none⟩) n c1,.slice (some ⟨D2,0,none⟩) n c2] w fun e w'=>e=.returned (.bool true)/\Below w.heap.size w w':=by
 have hl':(n:Int)<=1048576:=by omega
 have O1:Hid (qbo w D1 h1 n ls b1 h):=o1;have O2:Hid (qbo w D2 h2 n ls b2 h):=o2;have HL:Hid (∀ i,i<n->ls i<=1048576):=hl;clear o1 o2 hl
 go_enter Tryz.func86,Tryz.ntmps86
 go_wp2_with fail
 go_loopw [5] (fun i wr=>∃ k:Nat,k<=n/\i=.int .i64 k/\Below w.heap.size w wr) (fun i _=>n - (intOf i).toNat)
 case atStart=>exact ⟨0,Nat.zero_le _,rfl,Below.refl _ _⟩
 case round=>
  obtain ⟨k,hk,rfl,hbw⟩:=hrel;have hs:=hbw.size;by_cases hlt:k<n
  ·have P1:Hid (qbo wr D1 h1 n ls b1 h):=O1.out.below hbw O1.out.le
   have P2:Hid (qbo wr D2 h2 n ls b2 h):=O2.out.below hbw O2.out.le;have ck:=P1.out.cel k hlt;have dk:=P2.out.cel k hlt;have hlt':(k:Int)<(n:Int):=by omega
   go_wp2_with fail
   first|(go_region_with (go_at_call 84;refine (qg3 (b1 k) (b2 k) (ls k) (ls k) (ls k) (h k) wr.drew (HL.out k hlt) (zL (P1.out.bd k hlt).2 P1.out.le) (zL (P2.out.bd k hlt).2 P2.out.le) (P1.out.row k hlt) (P2.out.row k hlt)).mono ?_;rintro e w1 ⟨rfl,hq1⟩)) | fail
   all_goals
    go_wp2;go_roundw
    case rel=>exact ⟨k+1,by omega,by go_num,hbw.drew.trans (hq1.mono hs)⟩
    case measure=>simp [intOf];omega
  ·go_wp2
   go_ret;exact ⟨rfl,hbw⟩
theorem qli (D hi n cap:Nat) (ls bs:Nat->Nat) (h:Nat->Nat->Int) (k:Int) (w:World) (hn:n<=1048576) (hl:sumL ls n<=1048576) (k0:0<=k) (k1:k<=50000000) (o:qbo w D hi n ls bs h):
  Calls Tryz.prog 93 #[.slice (some ⟨D,0,none⟩) n cap,.int .i64 k] w fun e w'=>e=.returned (.int .i64 (k+(sumL ls n:Nat)))/\qaa (fun b=>D<b/\b<hi) w w':=by
 have hl':(n:Int)<=1048576:=by omega
 have O:Hid (qbo w D hi n ls bs h):=o;have HL:Hid (sumL ls n<=1048576):=hl;clear o hl
 go_enter Tryz.func93,Tryz.ntmps93
 go_wp2_with fail
 go_loopw [1,5] (fun q i wr=>∃ j:Nat,j<=n/\i=.int .i64 j/\q=.int .i64 (k+(sumL ls j:Nat))/\Hid (qaa (fun b=>∃ t,t<j/\b=bs t) w wr)) (fun _ i _=>n - (intOf i).toNat)
 case atStart=>exact ⟨0,Nat.zero_le _,rfl,by simp [sumL],qaa.refl _ _⟩
 case round=>
  obtain ⟨j,hj,rfl,rfl,HT⟩:=hrel;by_cases hlt:j<n
  ·have hlt':(j:Int)<(n:Int):=by omega
   have dD:¬ ∃ t,t<j/\D=bs t:=by
    rintro ⟨t,ht,e⟩;have:=(O.out.bd t (by omega)).1;omega
   have dJ:¬ ∃ t,t<j/\bs j=bs t:=by
    rintro ⟨t,ht,e⟩;have:=O.out.up t j ht hlt;omega
   have bJ:=O.out.bd j hlt;have le:=O.out.le;have ck:wr.cell? ⟨D,j,none⟩=some (.slice (some ⟨bs j,0,none⟩) (ls j) (ls j)):=(HT.out.cell (zL O.out.lt le) dD j).trans (O.out.cel j hlt)
   have RM:Hid (qcr wr (bs j) (ls j)):=by
    have hb:wr.heap[bs j]? = w.heap[bs j]?:=HT.out.block (bs j) (by omega) dJ;have hrm:qcr w (bs j) (ls j):=qcr.of_z (O.out.row j hlt) (O.out.fr j hlt);exact ⟨fun i hi=>(hrm.1 i hi).elim fun u e=>⟨u,(zH hb).trans e⟩,fun i=>(zI hb).trans (hrm.2 i)⟩
   have hsl:=qbc ls hlt;have hS:=HL.out;have e1:k+(sumL ls j:Nat)+(ls j:Int)=k+(sumL ls (j+1):Nat):=by simp only [sumL];omega
   have HE:Hid (k+(sumL ls j:Nat)+(ls j:Int)=k+(sumL ls (j+1):Nat)):=e1;have e2:0<=k+(sumL ls j:Nat):=by omega
   have e3:k+(sumL ls j:Nat)<=100000000:=by omega
   have e4:ls j<=1048576:=by omega
   clear dD bJ le e1 hS hsl;go_wp2_with fail
   refine (qfm (bs j) (ls j) (ls j) _ wr e4 e2 e3 RM.out).mono ?_;rintro e w1 ⟨rfl,g1⟩;rw [HE.out];have HT1:Hid (qaa (fun b=>∃ t,t<j+1/\b=bs t) w w1):=(HT.out.mono fun b ⟨t,ht,e⟩=>⟨t,by omega,e⟩).trans (qaa.of_grown g1 fun b e=>⟨j,by omega,by simpa using e.symm⟩);clear HT dJ RM e2 e3 e4 g1;go_wp2;go_roundw
   case rel=>exact ⟨j+1,by omega,by go_num,rfl,HT1.out⟩
   case measure=>simp [intOf];omega
  ·have hkl:j=n:=by omega
   subst hkl
   have HT1:Hid (qaa (fun b=>D<b/\b<hi) w wr):=HT.out.mono fun b ⟨t,ht,e⟩=>by
    subst e;exact O.out.bd t ht
   clear HT;go_wp2;go_ret;exact ⟨rfl,HT1.out⟩
theorem qtj {H:Type} {enc:TypeId × Value->H} {w:World} {spare:Nat->Bool} {held:Bool} {base:Nat} {a0:Option Addr} {len cap:Nat} {d:DataW H} {p:List MemPlace}
  (h:DataW.Trod enc Tryz.prog w base spare held 30 (.slice a0 len cap) d p):
  len<=maxLen/\∃ aa ls cs,RowS w a0 len (fun i=>.slice (aa i) (ls i) (cs i))/\(∀ i,i<len->ls i<=maxLen)/\((∀ i,i<len->ls i<=1048576)->∃ hh,qq5 w a0 len aa ls cs hh):=by
 obtain ⟨hm,f,hrow,hf⟩:=qdg Tryz.underlying30 (el:=28) (by kernel_rfl) h;refine ⟨hm,?_⟩
 have hpart:∀ i,i<len->∃ x:Option Addr × Nat × Nat,f i=.slice x.1 x.2.1 x.2.2/\x.2.1<=maxLen/\(x.2.1<=1048576->∃ g,qh0 w x.1 x.2.1 x.2.2 g):=by
  intro i hi;obtain ⟨m,x,hx⟩:=hf i hi
  have hsl:∃ a l c,f i=.slice a l c:=by
   rcases Go.Deep.open_slice Tryz.underlying28 hx with ⟨hcs,_⟩ | ⟨a,len',cap',m,n,D,Pl,hcs,_⟩
   ·simp at hcs
    exact ⟨_,_,_,hcs⟩
   ·simp at hcs
    exact ⟨_,_,_,hcs⟩
  obtain ⟨a,l,c,e⟩:=hsl;rw [e] at hx;obtain ⟨h1,h2⟩:=qn4 (d:=x.1) (p:=x.2) (a0:=a) (len:=l) (cap:=c) ⟨m,by simpa [Value.cells] using hx⟩;exact ⟨(a,l,c),e,h1,fun hs=>qjz hs h2⟩
 obtain ⟨g,hg⟩:=Go.Deep.choose_lt (α:=Option Addr × Nat × Nat) hpart;refine ⟨fun i=>(g i).1,fun i=>(g i).2.1,fun i=>(g i).2.2,?_,fun i hi=>(hg i hi).2.1,fun hs=>?_⟩
 ·rcases hrow with h0 | ⟨b,off,e,hlt,hc⟩
  ·exact .inl h0
  ·exact .inr ⟨b,off,e,hlt,fun i hi=>(hc i hi).trans (by rw [(hg i hi).1])⟩
 ·have hq:∀ i,i<len->∃ q:Nat->Int,qh0 w (g i).1 (g i).2.1 (g i).2.2 q:=fun i hi=>(hg i hi).2.2 (hs i hi)
  have inh:Inhabited (Nat->Int):=⟨fun _=>0⟩
  obtain ⟨hh,hhh⟩:=Go.Deep.choose_lt (α:=Nat->Int) hq;refine ⟨hh,?_,hhh⟩
  rcases hrow with h0 | ⟨b,off,e,hlt,hc⟩
  ·exact .inl h0
  ·exact .inr ⟨b,off,e,hlt,fun i hi=>(hc i hi).trans (by rw [(hg i hi).1])⟩
theorem qte (x:SysIn) (lo hi:Nat) (v:Value) (w:World) (hs:x.size<=1048576) (o:qcf w lo hi x v):
  Calls Tryz.prog 34 #[v,.int .i64 1] w fun e w'=>(∃ z:Int,e=.returned (.int .i64 z)/\¬ z<0/\z<=30000000)/\qaa (fun b=>lo<=b/\b<hi) w w':=by
 obtain ⟨D1,D2,D3,D4,b1,vs,b3,b4,h1,h2,h3,o⟩:=o;have HS:Hid (x.size<=1048576):=hs;obtain ⟨q1,q2,q3,q4,-⟩:=o.hi;have OO:Hid (qq6 w lo hi x v D1 D2 D3 D4 b1 vs b3 b4 h1 h2 h3):=o;have QQ:Hid (h1<=hi/\h2<=hi/\h3<=hi/\hi<=w.heap.size):=⟨q1,q2,q3,q4⟩
 obtain ⟨rfl,p1,s1,w1,i1,y1,y2,y3,y4⟩:=o;have Y:Hid (lo<=D1/\h1<=D2/\h2<=D3/\h3<=D4/\D1<h1/\D2<h2/\D3<h3/\D4<hi):=⟨y1,y2,y3,y4,p1.lt,s1.lt,w1.lt,i1.lt⟩
 have P1:Hid (qbk w D1 h1 x.pn x.pL b1 x.pH):=p1;have S1:Hid (qau w D2 h2 x.sn x.sS vs):=s1;have W1:Hid (qa3 w D3 h3 x.wn x.wL b3 x.wH):=w1;have I1:Hid (qaw w D4 hi x.hn x.hL b4 x.hH):=i1;clear p1 s1 w1 i1 y1 y2 y3 y4 q1 q2 q3 q4 hs OO;have X0:Hid (MkY w (w.alloc (oQ4 (some ⟨D1,0,none⟩) x.pn x.pn (some ⟨D2,0,none⟩) x.sn x.sn (some ⟨D3,0,none⟩) x.wn x.wn (some ⟨D4,0,none⟩) x.hn x.hn)) lo hi D1 D2 D3 D4 x):=⟨qaa.of_below (qad _ _),BoxC.new w (.slice (some ⟨D1,0,none⟩) x.pn x.pn) (.slice (some ⟨D2,0,none⟩) x.sn x.sn) (.slice (some ⟨D3,0,none⟩) x.wn x.wn) (.slice (some ⟨D4,0,none⟩) x.hn x.hn) 41,by simp⟩
 have BA:Hid (Below w.heap.size w (w.alloc (oQ4 (some ⟨D1,0,none⟩) x.pn x.pn (some ⟨D2,0,none⟩) x.sn x.sn (some ⟨D3,0,none⟩) x.wn x.wn (some ⟨D4,0,none⟩) x.hn x.hn))):=qad _ _
 go_enter Tryz.func34,Tryz.ntmps34
 go_wp2_with fail
 generalize w.alloc (oQ4 (some ⟨D1,0,none⟩) x.pn x.pn (some ⟨D2,0,none⟩) x.sn x.sn (some ⟨D3,0,none⟩) x.wn x.wn (some ⟨D4,0,none⟩) x.hn x.hn)=wA at *;refine (qlg D1 h1 x.pn x.pn x.pL b1 x.pH 1 wA (SysIn.lens HS.out).1.1 (SysIn.lens HS.out).1.2 (by omega) (by omega) (P1.out.below BA.out (by have:=QQ.out;omega))).mono ?_;rintro e w1 ⟨rfl,t1⟩;have X1:Hid (MkY w w1 lo hi D1 D2 D3 D4 x):=X0.out.step (by have:=QQ.out;omega) t1 fun b hb=>by have:=QQ.out;have:=Y.out;omega
 have KS:Hid (qau w1 D2 h2 x.sn x.sS vs):=(S1.out.below BA.out (by have:=QQ.out;omega)).keep t1.size fun k hk1 hk2=>t1.block k (by have:=BA.out.size;have:=QQ.out;omega) (fun e=>by have:=Y.out;omega);have KW:Hid (qa3 w1 D3 h3 x.wn x.wL b3 x.wH):=(W1.out.below BA.out (by have:=QQ.out;omega)).keep t1.size fun k hk1 hk2=>t1.block k (by have:=BA.out.size;have:=QQ.out;omega) (fun e=>by have:=Y.out;omega);have KI:Hid (qaw w1 D4 hi x.hn x.hL b4 x.hH):=(I1.out.below BA.out (by have:=QQ.out;omega)).keep t1.size fun k hk1 hk2=>t1.block k (by have:=BA.out.size;have:=QQ.out;omega) (fun e=>by have:=Y.out;omega);have z1:0<=(1:Int)+5*(sumL x.pL x.pn:Nat)/\(1:Int)+5*(sumL x.pL x.pn:Nat)<=6000000:=by have:=(SysIn.lens HS.out).1.2;omega
 generalize (1:Int)+5*(sumL x.pL x.pn:Nat)=Z1 at *;have HZ1:Hid (0<=Z1/\Z1<=6000000):=z1;clear t1 X0 P1 S1 W1 I1 BA z1;obtain ⟨-,⟨p0,p1,p2,p3⟩,lt⟩:=X1.out;go_wp2_with fail
 clear p0 p1 p2 p3 lt;refine (qjp D2 h2 x.sn x.sn x.sS vs Z1 w1 (SysIn.lens HS.out).2.1.1 (SysIn.lens HS.out).2.1.2 HZ1.1 (by have:=HZ1.out;omega) KS.out).mono ?_;rintro e w2 ⟨rfl,t2⟩;have X2:Hid (MkY w w2 lo hi D1 D2 D3 D4 x):=X1.out.step (by have:=QQ.out;omega) t2 fun b hb=>by have:=QQ.out;have:=Y.out;omega
 have KW2:Hid (qa3 w2 D3 h3 x.wn x.wL b3 x.wH):=KW.out.keep t2.size fun k hk1 hk2=>t2.block k (zL hk2 KW.out.le) (fun e=>by have:=Y.out;omega);have KI2:Hid (qaw w2 D4 hi x.hn x.hL b4 x.hH):=KI.out.keep t2.size fun k hk1 hk2=>t2.block k (zL hk2 KI.out.le) (fun e=>by have:=Y.out;omega);have z2:0<=Z1+(2*x.sn+sumL (lenS x.sS) x.sn:Nat)/\Z1+(2*x.sn+sumL (lenS x.sS) x.sn:Nat)<=12000000:=by have:=(SysIn.lens HS.out).2.1;have:=HZ1.out;omega
 generalize Z1+(2*x.sn+sumL (lenS x.sS) x.sn:Nat)=Z2 at *;have HZ2:Hid (0<=Z2/\Z2<=12000000):=z2;clear t2 X1 KS KW KI z2 HZ1;obtain ⟨-,⟨p0,p1,p2,p3⟩,lt⟩:=X2.out;go_wp2_with fail
 clear p0 p1 p2 p3 lt;refine (qjo D3 h3 x.wn x.wn x.wL b3 x.wH Z2 w2 (SysIn.lens HS.out).2.2.1.1 (SysIn.lens HS.out).2.2.1.2 HZ2.1 (by have:=HZ2.out;omega) KW2.out).mono ?_;rintro e w3 ⟨rfl,t3⟩;have X3:Hid (MkY w w3 lo hi D1 D2 D3 D4 x):=X2.out.step (by have:=QQ.out;omega) t3 fun b hb=>by have:=QQ.out;have:=Y.out;omega
 have KI3:Hid (qaw w3 D4 hi x.hn x.hL b4 x.hH):=KI2.out.keep t3.size fun k hk1 hk2=>t3.block k (zL hk2 KI2.out.le) (fun e=>by have:=Y.out;omega);have z3:0<=Z2+2*(sumL x.wL x.wn:Nat)/\Z2+2*(sumL x.wL x.wn:Nat)<=18000000:=by have:=(SysIn.lens HS.out).2.2.1;have:=HZ2.out;omega
 generalize Z2+2*(sumL x.wL x.wn:Nat)=Z3 at *;have HZ3:Hid (0<=Z3/\Z3<=18000000):=z3;clear t3 X2 KW2 KI2 z3 HZ2;obtain ⟨-,⟨p0,p1,p2,p3⟩,lt⟩:=X3.out;go_wp2_with fail
 clear p0 p1 p2 p3 lt;refine (qik D4 hi x.hn x.hn x.hL b4 x.hH Z3 w3 (SysIn.lens HS.out).2.2.2.1 (SysIn.lens HS.out).2.2.2.2 HZ3.1 (by have:=HZ3.out;omega) KI3.out).mono ?_;rintro e w4 ⟨rfl,t4⟩;have X4:Hid (MkY w w4 lo hi D1 D2 D3 D4 x):=X3.out.step (by have:=QQ.out;omega) t4 fun b hb=>by have:=QQ.out;have:=Y.out;omega
 have HZ4:Hid (¬ Z3+3*(sumL x.hL x.hn:Nat)<0/\Z3+3*(sumL x.hL x.hn:Nat)<=30000000):=by
  show ¬ Z3+3*(sumL x.hL x.hn:Nat)<0/\Z3+3*(sumL x.hL x.hn:Nat)<=30000000;have:=HZ3.out;have:=(SysIn.lens HS.out).2.2.2.2;omega
 generalize Z3+3*(sumL x.hL x.hn:Nat)=Z4 at *;clear t4 X3 KI3 HZ3;go_wp2;go_ret;exact ⟨⟨_,rfl,HZ4.out⟩,X4.out.tch⟩
section
variable {z:Bool} {B N:Nat} {c:Nat->Nat} {y:Sy} {wr:World} {vp vs vw vh:Value} {up us uw uh:Nat->Value}
end
theorem qha {t e:TypeId} {size bytes:Nat} (K:Kind t e size bytes) (w:World) (ty:TypeId) (a0:Option Addr) (m c:Nat) (news:List Value) (hl:news.length=m*size) (hsrc:Src w a0 news) (h1:∀ u ∈ news,u.oneCell'=true) (cs:Array Value) (hz:cs.size=m*size):
  (Builtin.copy_ #[t,t] ty #[.slice (some ⟨w.heap.size,0,none⟩) m m,.slice a0 m c]).run Tryz.prog (w.alloc (.cells cs e))=.ok (goInt m) (w.alloc (.cells news.toArray e)):=by
 obtain ⟨i,z,hi,-,hs,-,-⟩:=K.inf;have hg:(w.alloc (.cells cs e)).heap[w.heap.size]? = some (.cells cs e (0,0)):=heap_alloc_new w _;have hst:=run_storeCells_at Tryz.prog w.heap.size 0 e news 0 cs (w.alloc (.cells cs e)) hg (by rw [hl,hz];omega) h1;have hmin:Nat.min m m=m:=Nat.min_self m;cases a0 with
 | none=>
  have hn0:news=[]:=by
   rcases hsrc with h | ⟨b,off,e,_⟩
   ·exact h
   ·cases e
  subst hn0
  have hm:m=0:=by
   simp only [List.length_nil] at hl
   rcases Nat.eq_zero_or_pos m with h | h
   ·exact h
   ·have:=Nat.mul_pos h K.pos
    omega
  subst hm
  have hc:cs=#[]:=by
   have:cs.size=0:=by omega
   exact Array.eq_empty_of_size_eq_zero this
  subst hc;simp [Builtin.copy_,run_underlying K.und,Builtin.lenOf,Builtin.firstCells,sizeOf,typeInfo,hi,storeCells]
 | some a=>
  have hnews:∀ j u,news[j]? = some u->(w.alloc (.cells cs e)).cell? (a.add j)=some u:=by
   rcases hsrc with h0 | ⟨b,off,e,hlt,hc⟩
   ·subst h0
    intro j u hj;simp at hj
   ·cases e
    intro j u hj;have ha:Addr.add ⟨b,off,none⟩ j=⟨b,off+j,none⟩:=by unfold Addr.add;split <;> simp_all
    rw [ha];exact ((zP w _).cell (p:=⟨b,off+j,none⟩) hlt).trans (hc j u hj)
  have hld:=run_loadCells_list (P:=Tryz.prog) (w.alloc (.cells cs e)) a news hnews;rw [hl] at hld;simp only [List.take_zero,List.nil_append,Nat.zero_add] at hst;rw [List.drop_of_length_le (by simp [hl,hz]),List.append_nil,qhc] at hst;simp [Builtin.copy_,run_underlying K.und,Builtin.lenOf,Builtin.firstCells,sizeOf,typeInfo,hi,hs,hld,hst]
theorem qfy {t e:TypeId} {size bytes:Nat} (K:Kind t e size bytes) (n:Nat) (hn:n<=1048576):∃ cs:Array Value,cs.size=n*size/\∀ w:World,(Instr.makeSlice t (.int .i64 (n:Int)) (.int .i64 (n:Int))).run Tryz.prog w=.ok (.slice (some ⟨w.heap.size,0,none⟩) n n) (w.alloc (.cells cs e)):=by
 obtain ⟨i,z,hi,hz,hs,hb,hzs⟩:=K.inf;refine ⟨madeCells z.cells (n*size),size_madeCells _ _,fun w=>?_⟩
 have hby:i.bytes*n<=281474976710656:=by
  rw [hb];exact zO (Nat.mul_le_mul K.sml hn) (by omega)
 have hby':(i.bytes:Int)*(n:Int)<=281474976710656:=by rw [<- Int.natCast_mul];exact Int.ofNat_le.2 hby
 have h:=run_make (P:=Tryz.prog) w t e i z K.und hi hz .i64 .i64 (n:Int) (n:Int) (by omega) (by omega) hby' (by omega);rw [hs,Int.toNat_natCast] at h;exact h
theorem qrx {g:Nat->I5} {len:Nat} {eh eh':Nat->E3}:∀ {k:Nat},(∀ i,i<k->eh' i=eh i)->rp g len eh' k=rp g len eh k
 | 0,_=>rfl
 | k+1,h=>by
  show (rp g len eh' k).bind (qeo g len (eh' k))=(rp g len eh k).bind (qeo g len (eh k));rw [qrx fun i hi=>h i (by omega),h k (by omega)]
theorem qio {eh eh':Nat->E3} {kd pr:Int}:∀ {k:Nat},(∀ i,i<k->eh' i=eh i)->plN eh' kd pr k=plN eh kd pr k
 | 0,_=>rfl
 | k+1,h=>by
  have e:=qio (kd:=kd) (pr:=pr) (k:=k) fun i hi=>h i (by omega)
  have hh:hitB eh' kd pr k=hitB eh kd pr k:=by
   unfold hitB;rw [h k (by omega)]
  unfold plN;rw [e,hh]
theorem qvc {eh:Nat->E3} {kd pr:Int}:∀ {k i:Nat},i ∈ plN eh kd pr k->i<k
 | 0,i,h=>by simp [plN] at h
 | k+1,i,h=>by
  unfold plN at h
  split at h
  ·simp only [List.mem_append,List.mem_singleton] at h
   rcases h with h | h
   ·have:=qvc h
    omega
   ·omega
  ·have:=qvc h
   omega
theorem qt1 {eh eh':Nat->E3} {kd pr:Int} {k:Nat} (h:∀ i,i<k->eh' i=eh i):valL eh' kd pr k=valL eh kd pr k:=by
 unfold valL;rw [qio h];exact List.map_congr_left fun i hi=>by rw [h i (qvc hi)]
theorem qif {eh eh':Nat->E3} {kd pr:Int} {k:Nat} (h:∀ i,i<k->eh' i=eh i):cnt eh' kd pr k=cnt eh kd pr k:=by
 unfold cnt;rw [qio h]
theorem qxu (eh:Nat->E3) (kd pr:Int) (k:Nat):cnt eh kd pr k=(valL eh kd pr k).length:=by simp [cnt,valL]
theorem qvv {eh:Nat->E3} {kd pr:Int} {n:Nat} {x:E3}:valL (fun i=>if i=n then x else eh i) kd pr (n+1)=valL eh kd pr n ++ (if x.k=kd/\x.q=pr then [x.v] else []):=by
 have e:valL (fun i=>if i=n then x else eh i) kd pr n=valL eh kd pr n:=qt1 fun i hi=>by rw [if_neg (by omega)]
 by_cases h:x.k=kd/\x.q=pr
 ·have hh:hitB (fun i=>if i=n then x else eh i) kd pr n=true:=by
   rw [qec];simp only [if_true];exact h
  rw [qr2 hh,e,if_pos h];simp
 ·have hh:hitB (fun i=>if i=n then x else eh i) kd pr n=false:=by
   rcases zK (hitB (fun i=>if i=n then x else eh i) kd pr n) with t | t
   ·rw [qec] at t
    simp only [if_true] at t;exact absurd t h
   ·exact t
  rw [qmb hh,e,if_neg h,List.append_nil]
theorem qj4 {H H':Nat->I2}:∀ {n:Nat},(∀ i,i<n->H' i=H i)->numL H' n=numL H n
 | 0,_=>rfl
 | n+1,h=>by
  unfold numL;rw [qj4 fun i hi=>h i (by omega),h n (by omega)]
theorem qu6 (H:Nat->I2) (n:Nat) (v:Int):numL (fun i=>if i=n then ⟨false,v⟩ else H i) (n+1)=numL H n ++ [v]:=by
 rw [qhv (by simp)];rw [qj4 (H:=H) fun i hi=>by rw [if_neg (by omega)]];simp
theorem qgi {H:Nat->I2} (h0:(H 0).m=false):∀ n,numL H (n+1)=(H 0).v :: numL (fun i=>H (i+1)) n
 | 0=>by rw [qhv h0];rfl
 | n+1=>by
  rw [numL];rw [qgi h0 n]
  conv=>rhs;rw [numL]
  split <;> simp
theorem Hs.Put.more {x x':Hs} (hn:x'.n=x.n) (hl:∀ j,x.l j<=x'.l j) (he:∀ j i,i<x.l j->x'.e j i=x.e j i) {d:Nat->Nat} (h:x.Put d):x'.Put d:=by
 induction h with
 | start=>exact .start
 | next hd hp hc ih=>
  rename_i d p;refine .next ih (by omega) ⟨zL hc.1 (hl p),fun hk=>?_⟩;have e:=he p (d p) hc.1;rw [e] at hk ⊢;have hle:=hd.le;rw [qif (fun i hi=>he p i (Nat.lt_trans hi hc.1)),qif (fun i hi=>he _ i (zL hi (hle _)))];exact hc.2 hk
theorem qvy {a b p q n:Nat} (hb:b<n) (hq:q<n) (h:a*n+b=p*n+q):a=p/\b=q:=by
 have h1:(a*n+b) / n=a:=by rw [Nat.mul_comm,Nat.mul_add_div (by omega),Nat.div_eq_of_lt hb,Nat.add_zero]
 have h2:(p*n+q) / n=p:=by rw [Nat.mul_comm,Nat.mul_add_div (by omega),Nat.div_eq_of_lt hq,Nat.add_zero]
 have h3:a=p:=by rw [<- h1,<- h2,h]
 subst h3;exact ⟨rfl,by omega⟩
theorem qry {a b p q n:Nat} (h1:a=p) (h2:q=b):a*n+b=p*n+q:=by rw [h1,h2]
theorem Sy.Ok.next {y:Sy} (h:y.Ok) {p:Nat} (hp:p<y.pn) (hc:(y.sS p).c=0):(y.nk p=1\/y.nk p=2\/y.nk p=3\/y.nk p=4)/\(y.nk p≠2->y.nk p≠3->y.nq p=0)/\(y.nk p=2->numB (y.nv p)=true):=by
 have hr:=h.right hp hc;rw [<- hc] at hr;have e1:y.nk p=evK (y.pH p (y.sS p).p.toNat).o:=if_pos hr;have e2:y.nq p=evP (y.pH p (y.sS p).p.toNat).o (y.pH p (y.sS p).p.toNat).n:=if_pos hr;have e3:y.nv p=evW (y.pH p (y.sS p).p.toNat).o (y.pH p (y.sS p).p.toNat).a (y.sS p).rs:=if_pos hr;obtain ⟨hpr,hs,-⟩:=qbb hr;obtain ⟨⟨a1,a2,a3,a4,ers,n1,n2,n3,n4⟩,⟨k,ek,hk⟩,-,-⟩:=qck hs;have ek':(y.sS p).p.toNat=k:=by omega
 obtain ⟨-,-,⟨m0,m3⟩,-⟩:=qcb (qbt hpr hk);rw [ek'] at e1 e2 e3;refine ⟨?_,?_,?_⟩
 ·rw [e1]
  unfold evK
  split
  ·exact .inr (.inl rfl)
  ·split
   ·exact .inr (.inr (.inl rfl))
   ·split
    ·exact .inr (.inr (.inr rfl))
    ·exact .inl rfl
 ·intro h2 h3
  rw [e1] at h2 h3;rw [e2];unfold evK at h2 h3;unfold evP;by_cases e6:(y.pH p k).o=6
  ·rw [if_pos e6] at h2
   exact absurd rfl h2
  ·rw [if_neg e6] at h3 ⊢
   by_cases e7:(y.pH p k).o=7
   ·rw [if_pos e7] at h3
    exact absurd rfl h3
   ·rw [if_neg e7]
 ·intro h2
  rw [e1] at h2;rw [e3,ers]
  have e6:(y.pH p k).o=6:=by
   unfold evK at h2;by_cases e6:(y.pH p k).o=6
   ·exact e6
   ·rw [if_neg e6] at h2
    split at h2
    ·cases h2
    ·split at h2 <;> cases h2
  unfold evW;rw [if_pos e6];obtain ⟨j,ej⟩:∃ j:Nat,(y.pH p k).a=j:=⟨(y.pH p k).a.toNat,by omega⟩
  have hj:(y.pH p k).a.toNat<4:=by omega
  match (y.pH p k).a.toNat,hj with
  | 0,_=>exact n1
  | 1,_=>exact n2
  | 2,_=>exact n3
  | 3,_=>exact n4
structure Sy.Done (y:Sy) (p:Nat) (f:Int):Prop where
 run:(y.sS p).c=0
 room:y.hL p<200
 peer:0<=y.eq p f/\y.eq p f<(y.pn:Int)
 send:y.nk p=2->y.wL (p*y.pn+(y.eq p f).toNat)<12/\numB (y.ev p f)=true
 take:y.nk p=3->0<y.wL ((y.eq p f).toNat*y.pn+p)/\(y.wH ((y.eq p f).toNat*y.pn+p) 0).m=false/\(y.wH ((y.eq p f).toNat*y.pn+p) 0).v=y.ev p f/\numB (y.ev p f)=true
 can:doB (y.pH p) (y.pL p) (y.sS p).p (y.sS p).rs (y.sS p).os (y.sS p).c (y.nk p) (y.eq p f) (y.ev p f)=true
theorem Sy.Ok.done {y:Sy} (h:y.Ok) {p:Nat} (hp:p<y.pn) {f:Int} (hc:cmS y p f=0):y.Done p f:=by
 unfold cmS at hc;have h4:y.pn<=4:=h.cn.1.2;have h1:1<=y.pn:=h.cn.1.1;by_cases c0:(y.sS p).c=0
 case neg=>
  rw [if_pos c0] at hc;cases hc
 rw [if_neg (by simpa using c0)] at hc;by_cases c1:fuS y p (y.nk p) (y.nq p)=true
 ·rw [if_pos c1] at hc
  cases hc
 rw [if_neg c1] at hc
 have hfu:y.hL p<200/\(y.nk p=2->y.wL (p*y.pn+(y.nq p).toNat)<12):=by
  simp only [fuS,Bool.or_eq_true,decide_eq_true_eq,Bool.and_eq_true,beq_iff_eq,not_or,not_and] at c1;exact ⟨by omega,fun h2=>by have:=c1.2 h2;omega⟩
 obtain ⟨hk,hq0,hnv⟩:=h.next hp c0;by_cases k3:y.nk p=3
 ·rw [if_pos k3] at hc
  have eQ:y.eq p f=if y.nq p=9 then f else y.nq p:=if_pos k3
  rw [<- eQ] at hc;have eV:y.ev p f=(y.wH ((y.eq p f).toNat*y.pn+p) 0).v:=if_pos k3;unfold tkS at hc;by_cases b:belB (y.eq p f) y.pn=true
  case neg=>
   rw [if_neg b] at hc;cases hc
  rw [if_pos b] at hc;have hb:0<=y.eq p f/\y.eq p f<(y.pn:Int):=by simpa [belB] using b
  by_cases w0:y.wL ((y.eq p f).toNat*y.pn+p)=0
  ·rw [if_pos w0] at hc
   cases hc
  rw [if_neg w0] at hc;by_cases m0:(y.wH ((y.eq p f).toNat*y.pn+p) 0).m=true
  ·rw [if_pos m0] at hc
   cases hc
  have hv:numB (y.ev p f)=true:=by
   have:=(h.wa (y.eq p f).toNat (by omega) p hp).it 0 (by omega);simp only [qcg,Bool.and_eq_true] at this;rw [eV];exact this.1
  refine ⟨c0,hfu.1,hb,(fun h2=>by rw [k3] at h2;cases h2),fun _=>⟨by omega,by simpa using m0,eV.symm,hv⟩,?_⟩;have e3:nxK (y.pH p) (y.pL p) (y.sS p).p (y.sS p).rs (y.sS p).os (y.sS p).c=3:=k3;unfold doB canB;rw [if_pos e3,k3,hv];simp only [beq_self_eq_true,Bool.true_and];by_cases e9:y.nq p=9
  ·have e9':nxP (y.pH p) (y.pL p) (y.sS p).p (y.sS p).rs (y.sS p).os (y.sS p).c=9:=e9
   rw [if_pos e9'];simp only [belB,decide_eq_true_eq];omega
  ·have e9':¬ nxP (y.pH p) (y.pL p) (y.sS p).p (y.sS p).rs (y.sS p).os (y.sS p).c=9:=e9
   rw [if_neg e9',eQ,if_neg e9];simp [Sy.nq]
 ·have eQ:y.eq p f=y.nq p:=if_neg k3
  have eV:y.ev p f=y.nv p:=if_neg k3
  have hpe:0<=y.nq p/\y.nq p<(y.pn:Int):=by
   by_cases k2:y.nk p=2
   ·exact h.peer hp k2
   ·rw [hq0 k2 k3]
    omega
  refine ⟨c0,hfu.1,by rw [eQ];exact hpe,fun h2=>⟨by rw [eQ];exact hfu.2 h2,by rw [eV];exact hnv h2⟩,fun h3=>absurd h3 k3,?_⟩;have e3:¬ nxK (y.pH p) (y.pL p) (y.sS p).p (y.sS p).rs (y.sS p).os (y.sS p).c=3:=k3;have e0:y.nk p≠0:=by omega
  unfold doB canB;rw [if_neg e3,eQ,eV];simp only [Bool.and_eq_true,bne_iff_ne,beq_iff_eq];exact ⟨e0,rfl,rfl,rfl⟩
theorem Sy.Ok.step {y:Sy} (h:y.Ok) {p:Nat} (hp:p<y.pn) {f:Int} (hc:cmS y p f=0):(y.step p f).Ok:=by
 have D:=h.done hp hc;have e:y.step p f=(y.way p (y.nk p) (y.eq p f) (y.ev p f)).evt p (y.nk p) (y.eq p f) (y.ev p f):=if_pos hc;rw [e];obtain ⟨q,hq⟩:∃ q:Nat,y.eq p f=q:=⟨(y.eq p f).toNat,by have:=D.peer;omega⟩
 have hqn:q<y.pn:=by have:=D.peer;omega
 have D':=D;obtain ⟨run,room,peer,send,take,can⟩:=D;rw [hq,Int.toNat_natCast] at send take;rw [hq] at can ⊢;generalize hV:y.ev p f=V at *;obtain ⟨kk,-,-⟩:=h.next hp run;generalize hK:y.nk p=K at *;clear hV hK e hc hq peer D'
 -- what happened to each,now
 have hH:∀ a kd pr,valL (((y.way p K q V).evt p K q V).hH a) kd pr (((y.way p K q V).evt p K q V).hL a)=valL (y.hH a) kd pr (y.hL a) ++ (if a=p/\K=kd/\(q:Int)=pr then [V] else []):=by
  intro a kd pr;show valL (if a=p then (fun i=>if i=y.hL p then (⟨K,q,V⟩:E3) else y.hH p i) else y.hH a) kd pr (if a=p then y.hL p+1 else y.hL a)=_;by_cases ea:a=p
  ·subst ea
   simp only [if_true,true_and];exact qvv
  ·rw [if_neg ea,if_neg ea,if_neg (fun h=>ea h.1),List.append_nil]
 refine ⟨h.cn,h.pr,fun a ha=>?_,fun a ha i hi=>?_,fun a ha b hb=>?_,?_⟩
 ·show repO (y.pH a) (y.pL a) (if a=p then (fun i=>if i=y.hL p then (⟨K,q,V⟩:E3) else y.hH p i) else y.hH a) (if a=p then y.hL p+1 else y.hL a)=some (if a=p then doS (y.pH p) (y.pL p) (y.sS p).p (y.sS p).rs (y.sS p).os (y.sS p).c K q V else y.sS a)
  by_cases ea:a=p
  ·subst ea
   simp only [if_true];have h0:=qcp (h.rp a hp);unfold repO;rw [if_pos ⟨h0.1,by omega⟩];have hr:Go.Proofs.YtkdablcbhhphoaaGreatDoor.rp (y.pH a) (y.pL a) (fun i=>if i=y.hL a then (⟨K,q,V⟩:E3) else y.hH a i) (y.hL a)=some (y.sS a):=(qrx fun i hi=>by rw [if_neg (by omega)]).trans h0.2.2;have:=qve hr (by simpa using can);simpa using this
  ·rw [if_neg ea,if_neg ea,if_neg ea]
   exact h.rp a ha
 ·have hi':i<(if a=p then y.hL p+1 else y.hL a):=hi
  show ((if a=p then (fun i=>if i=y.hL p then (⟨K,q,V⟩:E3) else y.hH p i) else y.hH a) i).q<(y.pn:Int);by_cases ea:a=p
  ·subst ea
   simp only [if_true] at hi' ⊢;by_cases ei:i=y.hL a
   ·rw [if_pos ei]
    show (q:Int)<_;omega
   ·rw [if_neg ei]
    exact h.pe a hp i (by omega)
  ·rw [if_neg ea] at hi' ⊢
   exact h.pe a ha i hi'
 ·have wab:=h.wa a ha b hb
  rw [hH b 3 a,hH a 2 b];show WayP (((y.way p K q V)).wH (a*y.pn+b)) ((y.way p K q V).wL (a*y.pn+b)) _ _;by_cases k2:K=2
  ·subst k2
   rw [Sy.way_send,if_neg (fun h=>by have:=h.2.1;omega),List.append_nil];show WayP (if a*y.pn+b=p*y.pn+q then (fun i=>if i=y.wL (p*y.pn+q) then ⟨false,V⟩ else y.wH (p*y.pn+q) i) else y.wH (a*y.pn+b)) (if a*y.pn+b=p*y.pn+q then y.wL (p*y.pn+q)+1 else y.wL (a*y.pn+b)) _ _;by_cases ew:a*y.pn+b=p*y.pn+q
   ·obtain ⟨rfl,rfl⟩:=qvy hb hqn ew
    simp only [if_true];rw [if_pos ⟨trivial,trivial,trivial⟩];obtain ⟨s1,s2⟩:=send rfl;refine ⟨fun i hi=>?_,by omega,?_⟩
    ·by_cases ei:i=y.wL (a*y.pn+b)
     ·rw [if_pos ei]
      simp [qcg,s2]
     ·rw [if_neg ei]
      exact wab.it i (by omega)
    ·rw [qu6,<- List.append_assoc,wab.eq]
   ·rw [if_neg ew,if_neg ew,if_neg (fun h=>ew (qry h.1 (Int.ofNat_inj.1 h.2.2))),List.append_nil]
    exact wab
  ·by_cases k3:K=3
   ·subst k3
    rw [Sy.way_take,if_neg (c:=a=p/\(3:Int)=2/\_) (fun h=>by have:=h.2.1;omega),List.append_nil];show WayP (if a*y.pn+b=q*y.pn+p then (fun i=>y.wH (q*y.pn+p) (i+1)) else y.wH (a*y.pn+b)) (if a*y.pn+b=q*y.pn+p then y.wL (q*y.pn+p) - 1 else y.wL (a*y.pn+b)) _ _;by_cases ew:a*y.pn+b=q*y.pn+p
    ·obtain ⟨rfl,rfl⟩:=qvy hb hp ew
     simp only [if_true];rw [if_pos ⟨trivial,trivial,trivial⟩];obtain ⟨t1,t2,t3,-⟩:=take rfl;obtain ⟨m,em⟩:∃ m,y.wL (a*y.pn+b)=m+1:=⟨y.wL (a*y.pn+b) - 1,by omega⟩
     have weq:=wab.eq;have wle:=wab.le;have wit:=wab.it;rw [em] at weq wle wit ⊢;rw [Nat.add_sub_cancel];refine ⟨fun i hi=>wit (i+1) (by omega),by omega,?_⟩;rw [qgi t2,t3] at weq;rw [List.append_assoc];exact weq
    ·rw [if_neg ew,if_neg ew,if_neg (fun h=>ew (qry (Int.ofNat_inj.1 h.2.2).symm h.1.symm)),List.append_nil]
     exact wab
   ·rw [Sy.way_no y p k2 k3,if_neg (fun h=>k3 h.2.1),if_neg (fun h=>k2 h.2.1),List.append_nil,List.append_nil]
    exact wab
 ·obtain ⟨d,hd,hall⟩:=h.ro
  have hd':((y.way p K q V).evt p K q V).hs.Put d:=by
   refine Hs.Put.more (x:=y.hs) (x':=((y.way p K q V).evt p K q V).hs) rfl (fun j=>?_) (fun j i hi=>?_) hd
   ·show y.hL j<=if j=p then y.hL p+1 else y.hL j
    by_cases ej:j=p
    ·rw [if_pos ej,ej];omega
    ·rw [if_neg ej];exact Nat.le_refl _
   ·have hi':i<y.hL j:=hi
    show (if j=p then (fun i=>if i=y.hL p then (⟨K,q,V⟩:E3) else y.hH p i) else y.hH j) i=y.hH j i;by_cases ej:j=p
    ·subst ej
     rw [if_pos rfl,if_neg (by omega)]
    ·rw [if_neg ej]
  have hdp:d p=y.hL p:=hall p hp
  have epH:∀ a,a≠p->((y.way p K q V).evt p K q V).hs.e a=y.hH a:=fun a ha=>by
   show (if a=p then _ else y.hH a)=_;rw [if_neg ha]
  have epp:((y.way p K q V).evt p K q V).hs.e p=fun i=>if i=y.hL p then (⟨K,q,V⟩:E3) else y.hH p i:=by
   show (if p=p then _ else y.hH p)=_;rw [if_pos rfl];rfl
  have elp:((y.way p K q V).evt p K q V).hs.l p=y.hL p+1:=by
   show (if p=p then _ else y.hL p)=_;rw [if_pos rfl];rfl
  have ece:∀ a kd pr,a<y.pn->cnt (((y.way p K q V).evt p K q V).hs.e a) kd pr (d a)=(valL (y.hH a) kd pr (y.hL a)).length:=fun a kd pr ha=>by
   have hda:d a=y.hL a:=hall a ha;rw [hda,<- qxu];refine qif fun i hi=>?_;by_cases ea:a=p
   ·subst ea
    rw [epp];show (if i=y.hL a then (⟨K,q,V⟩:E3) else y.hH a i)=y.hH a i;rw [if_neg (by omega)]
   ·rw [epH a ea]
  refine ⟨up d p,.next hd' hp ⟨by rw [elp,hdp];omega,fun hk=>?_⟩,fun a ha=>?_⟩
  ·have ee:((y.way p K q V).evt p K q V).hs.e p (d p)=⟨K,q,V⟩:=by rw [epp,hdp];exact if_pos rfl
   rw [ee] at hk ⊢;have hk':K=3:=hk;show cnt _ 3 (q:Int) _<cnt (((y.way p K q V).evt p K q V).hs.e (q:Int).toNat) 2 p (d (q:Int).toNat);rw [Int.toNat_natCast,ece p 3 q hp,ece q 2 p hqn];obtain ⟨t1,t2,-⟩:=take hk';obtain ⟨m,em⟩:∃ m,y.wL (q*y.pn+p)=m+1:=⟨y.wL (q*y.pn+p) - 1,by omega⟩
   have weq:=(h.wa q hqn p hp).eq;rw [em,qgi t2] at weq;have:=congrArg List.length weq;simp only [List.length_append,List.length_cons] at this;omega
  ·have hda:d a=y.hL a:=hall a ha
   by_cases ea:a=p
   ·subst ea
    rw [qd9,elp,hdp]
   ·rw [up_other ea,hda]
    show y.hL a=if a=p then _ else y.hL a
    rw [if_neg ea]
