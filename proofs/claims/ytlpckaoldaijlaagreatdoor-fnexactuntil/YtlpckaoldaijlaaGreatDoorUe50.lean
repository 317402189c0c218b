/- Proved: called with whatever system, picks and stop, the program's Until answers as the model's Until, every field, writes into no argument, and its answer owns its memory. One condition, tied to the program's text: errors.errorType holds what its text lays. -/
import Derived.Test.YtlpckaoldaijlaaGreatDoorUe0
import Derived.Test.YtlpckaoldaijlaaGreatDoorUe48
import Derived.Test.YtlpckaoldaijlaaGreatDoorUe49
import Derived.Deep.RegionHeld3
import Derived.Test.YtlpckaoldaijlaaGreatDoorUe16
import Derived.Test.YtlpckaoldaijlaaGreatDoorCards
import Derived.SevenTiedAt
namespace Go.Proofs.YtlpckaoldaijlaaGreatDoor
set_option maxRecDepth 100000
set_option maxHeartbeats 16000000
open Go.ChangeShapes Go.WideShapes Go.ChangeAt Go.RowKit Go.Deep
def UtR (w0:World) (Y:Sy) (N:Nat) (wx:World):Prop:=Below w0.heap.size w0 wx/\w0.heap.size<=N/\∃ B T pa pc sa sc wa wc ha hc,w0.heap.size<=B/\T<=wx.heap.size/\(N<B\/T<=N)/\B<=wx.heap.size/\Own0 wx B T Y (.slice pa Y.pn pc) (.slice sa Y.sn sc) (.slice wa Y.wn wc) (.slice ha Y.hn hc)/\BoxC wx N (.slice pa Y.pn pc) (.slice sa Y.sn sc) (.slice wa Y.wn wc) (.slice ha Y.hn hc)
theorem UtR.of_alloc {w0 w5:World} {Y:Sy} {B:Nat} {pa sa wa ha:Option Addr} {pc sc wc hc:Nat} (q:Below w0.heap.size w0 w5) (hB:w0.heap.size<=B) (hB5:B<=w5.heap.size) (o:Own0 w5 B w5.heap.size Y (.slice pa Y.pn pc) (.slice sa Y.sn sc) (.slice wa Y.wn wc) (.slice ha Y.hn hc)) (t:TypeId):UtR w0 Y w5.heap.size (w5.alloc (.cells #[.slice pa Y.pn pc,.slice sa Y.sn sc,.slice wa Y.wn wc,.slice ha Y.hn hc] t)):=
 ⟨q.trans ((below_allocS _ _).mono q.size),q.size,B,w5.heap.size,pa,pc,sa,sc,wa,wc,ha,hc,hB,by simp,.inr (Nat.le_refl _),by simp;omega,o.below (below_allocS _ _),BoxC.new _ _ _ _ _ _⟩
theorem UtR.of_put {w0 w5:World} {Y:Sy} {B N:Nat} {pa sa wa ha:Option Addr} {pc sc wc hc:Nat} {z0 z1 z2 z3:Value} (q:Below w0.heap.size w0 w5) (hB:w0.heap.size<=B) (hB5:B<=w5.heap.size) (o:Own0 w5 B w5.heap.size Y (.slice pa Y.pn pc) (.slice sa Y.sn sc) (.slice wa Y.wn wc) (.slice ha Y.hn hc)) (hN:w0.heap.size<=N) (hNB:N<B) (bx:BoxC w5 N z0 z1 z2 z3):UtR w0 Y N ((((w5.setCell ⟨N,0,none⟩ (.slice pa Y.pn pc)).setCell ⟨N,1,none⟩ (.slice sa Y.sn sc)).setCell ⟨N,2,none⟩ (.slice wa Y.wn wc)).setCell ⟨N,3,none⟩ (.slice ha Y.hn hc)):=
 ⟨(((q.setCell hN _).setCell hN _).setCell hN _).setCell hN _,hN,B,w5.heap.size,pa,pc,sa,sc,wa,wc,ha,hc,hB,by simp,.inl hNB,by simpa using hB5,o.touch (Touch.of_grown (P:=fun b=>b=N) (grown4 w5 N _ _ _ _) fun k e=>by injection e with e;exact e.symm) fun b hb=>.inr (by omega),bx.set4 _ _ _ _⟩
theorem Hx.touch {W:World} {x:SysIn} {p k v:Int} {w w':World} {P:Nat->Prop} (h:Hx W x p k v w) (ht:Touch P w w') (hp:∀ b,P b->W.heap.size+1<b):Hx W x p k v w':=by
 have l:=h.lt
 have n1:¬ P (W.heap.size+1):=fun e=>by have:=hp _ e;omega
 exact ⟨h.be.trans (ht.below (by omega) fun b e=>by have:=hp b e;omega),h.bs.touch ht fun e=>by have:=hp _ e;omega,h.bx.blk (ht.block _ (by omega) n1),zP l ht.size⟩
structure UtG (W:World) (x:SysIn) (p k v:Int) (Y Z:Sy) (B8 T8 N8 B4 T4 N4:Nat) (a1 a2 a3 a4 g1 g2 g3 g4:Value) (w:World):Prop where
 hx:Hx W x p k v w
 o2:Own0 w B8 T8 Y a1 a2 a3 a4
 b8:BoxC w N8 a1 a2 a3 a4
 o4:Own0 w B4 T4 Z g1 g2 g3 g4
 b4:BoxC w N4 g1 g2 g3 g4
structure UtC (x x3:SysIn) (lo T10 P n:Nat) (h:Nat->Pk2) (w:World):Prop where
 s3:IsSys w lo T10 x x3.v
 b10:BoxC w T10 (.slice x3.pa x3.pn x3.pc) (.slice x3.sa x3.sn x3.sc) (.slice x3.wa x3.wn x3.wc) (.slice x3.ha x3.hn x3.hc)
 pk:PkAt w P 0 n h
 fz:∀ j,w.frozen? ⟨P,j,none⟩=false
 lt:P<w.heap.size
section
variable {W:World} {x x3:SysIn} {p k v:Int} {Y Z:Sy} {B8 T8 N8 B4 T4 N4 lo T10 P n:Nat} {h:Nat->Pk2} {a1 a2 a3 a4 g1 g2 g3 g4:Value} {w w':World}
theorem UtG.below (o:UtG W x p k v Y Z B8 T8 N8 B4 T4 N4 a1 a2 a3 a4 g1 g2 g3 g4 w) (hb:Below w.heap.size w w'):UtG W x p k v Y Z B8 T8 N8 B4 T4 N4 a1 a2 a3 a4 g1 g2 g3 g4 w':=
 ⟨o.hx.below hb,o.o2.below hb,o.b8.below hb,o.o4.below hb,o.b4.below hb⟩
theorem UtG.touch (o:UtG W x p k v Y Z B8 T8 N8 B4 T4 N4 a1 a2 a3 a4 g1 g2 g3 g4 w) {Q:Nat->Prop} (t:Touch Q w w') (hp:∀ b,Q b->W.heap.size+1<b/\T8<=b/\N8<b/\b<B4/\b<N4):UtG W x p k v Y Z B8 T8 N8 B4 T4 N4 a1 a2 a3 a4 g1 g2 g3 g4 w':=
 ⟨o.hx.touch t fun b hb=>(hp b hb).1,o.o2.touch t fun b hb=>by have:=hp b hb;omega,o.b8.touch t fun hb=>by have:=hp _ hb;omega,o.o4.touch t fun b hb=>by have:=hp b hb;omega,o.b4.touch t fun hb=>by have:=hp _ hb;omega⟩
theorem UtG.mark (o:UtG W x p k v Y Z B8 T8 N8 B4 T4 N4 a1 a2 a3 a4 g1 g2 g3 g4 w) {Z':Sy} (t:Touch (fun b=>B4<=b/\b<T4) w w') (o':Own0 w' B4 T4 Z' g1 g2 g3 g4) (h1:W.heap.size+1<B4) (h2:T8<=B4) (h3:N8<B4) (h4:N4<B4\/T4<=N4):UtG W x p k v Y Z' B8 T8 N8 B4 T4 N4 a1 a2 a3 a4 g1 g2 g3 g4 w':=
 ⟨o.hx.touch t fun b hb=>by omega,o.o2.touch t fun b hb=>by omega,o.b8.touch t fun hb=>by omega,o',o.b4.touch t fun hb=>by omega⟩
theorem UtC.below (o:UtC x x3 lo T10 P n h w) (hb:Below w.heap.size w w'):UtC x x3 lo T10 P n h w':=
 ⟨o.s3.below hb (Nat.le_of_lt o.b10.ltF),o.b10.below hb,o.pk.below hb o.lt,fun j=>((bcell hb).2 P j o.lt).trans (o.fz j),zP o.lt hb.size⟩
theorem PkAt.blk (o:PkAt w P 0 n h) (hb:w'.heap[P]? = w.heap[P]?):PkAt w' P 0 n h:=fun i hi=>⟨(zI hb).trans (o i hi).1,(zI hb).trans (o i hi).2⟩
end
theorem untilLaw_small (x:SysIn) (la:Option Addr) (n lc:Nat) (h:Nat->Pk2) (p k v:Int) (W:World) (hs:x.size+n<=1048576) (hA:x.Ok W) (hP:CopiesPk W la n lc h) (hV:W.cell? ⟨0,0,none⟩=some (.iface 294 (.agg #[.pointer (some ⟨1,179,none⟩)]))):
  Calls Tryz.prog 6 #[sysV x.pa x.pn x.pc x.sa x.sn x.sc x.wa x.wn x.wc x.ha x.hn x.hc,.slice la n lc,spV p k v] W fun e w'=>e=.returned (.bool true)/\Below W.heap.size W w':=by
 have HS:Hid (x.size<=1048576):=by show x.size<=1048576;omega
 have HNn:Hid (n<=1048576):=by show n<=1048576;omega
 have HA:Hid (x.Ok W):=hA
 have HP:Hid (CopiesPk W la n lc h):=hP
 have HV:Hid (W.cell? ⟨0,0,none⟩=some (.iface 294 (.agg #[.pointer (some ⟨1,179,none⟩)]))):=hV
 have HV0:Hid (0<W.heap.size):=zK W _ hV
 have hsz:¬ (1048576 - (x.size:Int)<0):=by omega
 have hsz2:¬ (1048576 - (x.size:Int) - (n:Int)<0):=by omega
 have HZ2:Hid ((n:Int)<=1048576 - (x.size:Int)/\1048576 - (x.size:Int)<=1048576):=⟨by omega,by omega⟩
 have X0:Hid (Hx W x p k v ((W.alloc (.cells #[.slice x.pa x.pn x.pc,.slice x.sa x.sn x.sc,.slice x.wa x.wn x.wc,.slice x.ha x.hn x.hc] 43)).alloc (.cells #[.int .i64 p,.int .i64 k,.int .i64 v] 45))):=Hx.new W x p k v _ _
 have HSM:Hid (unY x.y h n p k v).Sm:=unY_sm _ _ _ _ _ _
 clear hs hA hV hP
 obtain ⟨Y,hY⟩:∃ Y,unY x.y h n p k v=Y:=⟨_,rfl⟩
 obtain ⟨C,hC⟩:∃ C,unC x.y h n p k v=C:=⟨_,rfl⟩
 rw [hY] at HSM
 have HYC:Hid (unY x.y h n p k v=Y/\unC x.y h n p k v=C):=⟨hY,hC⟩
 clear hY hC
 have hCC:(C != C)=false:=by simp
 go_enter Tryz.func6,Tryz.ntmps6
 go_wp2_with fail
 generalize (W.alloc (.cells #[.slice x.pa x.pn x.pc,.slice x.sa x.sn x.sc,.slice x.wa x.wn x.wc,.slice x.ha x.hn x.hc] 43)).alloc (.cells #[.int .i64 p,.int .i64 k,.int .i64 v] 45)=wA at *
 refine (szSys_small x wA (HA.out.row.below X0.out.be) HS.out).mono ?_
 rintro e w0 ⟨rfl,b0⟩
 have X1:Hid (Hx W x p k v w0):=X0.out.below b0
 clear b0 X0
 go_wp2_with fail
 refine (szPickS_small la n lc _ w0 HZ2.out.1 HZ2.out.2).mono ?_
 rintro e w1 ⟨rfl,rfl⟩
 go_upto_region 8 with fail
 obtain ⟨c0,c1,c2,c3⟩:=X1.out.bs
 obtain ⟨e0,e1,e2,-⟩:=X1.out.bx
 have g1:=X1.out.lt
 have d1:w1.heap.size≠W.heap.size:=by omega
 have d2:w1.heap.size≠W.heap.size+1:=by omega
 go_cut [8,9] from 29 to 38 (fun s t wx=>∃ N:Nat,s=.pointer (some ⟨N,0,none⟩)/\t=.int .i64 C/\Hid (UtR w1 Y N wx))
 case first=>
    go_region_held3 (fun w'=>w'.cell? ⟨W.heap.size,0,none⟩=some (.slice x.pa x.pn x.pc)/\w'.cell? ⟨W.heap.size,1,none⟩=some (.slice x.sa x.sn x.sc)/\w'.cell? ⟨W.heap.size,2,none⟩=some (.slice x.wa x.wn x.wc)/\w'.cell? ⟨W.heap.size,3,none⟩=some (.slice x.ha x.hn x.hc)/\w'.cell? ⟨W.heap.size+1,0,none⟩=some (.int .i64 p)/\w'.cell? ⟨W.heap.size+1,1,none⟩=some (.int .i64 k)/\w'.cell? ⟨W.heap.size+1,2,none⟩=some (.int .i64 v)) (go_keep)
     (first
      | (go_at_call 22;refine (toSys_any x W _ HS.out HA.out (by have:=X1.out.be;go_grown)).mono ?_;rintro e w2 ⟨v2,rfl,o2,b2⟩;obtain ⟨x2,rfl,g2,y2,cp2⟩:=o2.g2;have q2:Below w1.heap.size w1 w2:=below_up (by go_grown) b2 (by simp);have X2:Hid (Hx W x p k v w2):=X1.out.below q2;obtain ⟨m0,m1,m2,m3⟩:=X2.out.bs;obtain ⟨m4,m5,m6,-⟩:=X2.out.bx;have I2:Hid (SysG w2 x2/\x2.y=x.y/\∀ i,i<x2.hn->x2.hL i<=x2.hC i):=⟨g2,y2,cp2⟩;obtain ⟨hc2,hf2⟩:=bcell b2;have l2:=X2.out.lt;have d21:w2.heap.size≠W.heap.size:=(by omega);have d22:w2.heap.size≠W.heap.size+1:=(by omega);have k2:=b2.size;(try simp only [World.size_alloc,World.size_drew,Nat.add_one_le_iff] at k2);have s2:w1.heap.size<=w2.heap.size:=q2.size;have Q2:Hid (Below w1.heap.size w1 w2):=q2;clear o2 b2 q2 g2 y2 cp2)
      | (go_at_call 30;refine (HP.out _ (by have:=X2.out.be;go_grown)).mono ?_;rintro e w3 ⟨rfl,i3,z3,b3,-⟩;have q3:Below w2.heap.size w2 w3:=below_up (by go_grown) b3 (by simp);have X3:Hid (Hx W x p k v w3):=X2.out.below q3;obtain ⟨n0,n1,n2,n3⟩:=X3.out.bs;obtain ⟨n4,n5,n6,-⟩:=X3.out.bx;(try simp only [World.size_alloc] at i3 z3);have J3:Hid (PkL w3 (some ⟨_,0,none⟩) n h):=.inr ⟨_,0,rfl,z3,i3⟩;have I3:Hid (SysG w3 x2/\x2.y=x.y/\∀ i,i<x2.hn->x2.hL i<=x2.hC i):=⟨I2.out.1.below q3,I2.out.2⟩;obtain ⟨hc3,hf3⟩:=bcell b3;have l3:=X3.out.lt;have d31:w3.heap.size≠W.heap.size:=(by omega);have d32:w3.heap.size≠W.heap.size+1:=(by omega);have k3:=b3.size;(try simp only [World.size_alloc,Nat.add_one_le_iff] at k3);have s3:w2.heap.size<=w3.heap.size:=q3.size;have k13:w1.heap.size<w2.heap.size->w1.heap.size<w3.heap.size:=(fun h=>by omega);have Q3:Hid (Below w1.heap.size w1 w3):=Q2.out.trans (q3.mono Q2.out.size);clear b3 q3 i3 z3)
      | (go_at_call 23;refine (toStop_any p k v _).mono ?_;rintro e w4 ⟨rfl,b4⟩;have q4:Below w3.heap.size w3 w4:=below_up (by go_grown) b4 (by simp);have X4:Hid (Hx W x p k v w4):=X3.out.below q4;obtain ⟨u0,u1,u2,u3⟩:=X4.out.bs;obtain ⟨u4,u5,u6,-⟩:=X4.out.bx;have J4:Hid (PkL w4 (some ⟨_,0,none⟩) n h):=J3.out.below q4;have I4:Hid (SysG w4 x2/\x2.y=x.y/\∀ i,i<x2.hn->x2.hL i<=x2.hC i):=⟨I3.out.1.below q4,I3.out.2⟩;obtain ⟨hc4,hf4⟩:=bcell b4;have l4:=X4.out.lt;have d41:w4.heap.size≠W.heap.size:=(by omega);have d42:w4.heap.size≠W.heap.size+1:=(by omega);have k4:=b4.size;(try simp only [World.size_alloc,Nat.add_one_le_iff] at k4);have s4:w3.heap.size<=w4.heap.size:=q4.size;have k14:w1.heap.size<w2.heap.size->w1.heap.size<w4.heap.size:=(fun h=>by omega);have k24:w2.heap.size<w3.heap.size->w2.heap.size<w4.heap.size:=(fun h=>by omega);have Q4:Hid (Below w1.heap.size w1 w4):=Q3.out.trans (q4.mono Q3.out.size);clear b4 q4)
      | (go_at_call 29;refine (specUntil_any x2 _ n _ h p k v _ (by first | exact I4.out.1 | exact I4.out.1.below ((Below.refl _ _).alloc (Nat.le_refl _) _)) (SysIn.len_of HS.out I4.out.2.1) I4.out.2.2 (by first | exact J4.out | exact J4.out.below ((Below.refl _ _).alloc (Nat.le_refl _) _)) HNn.out).mono ?_;rintro e w5 ⟨v5,rfl,o5,b5⟩;rw [I4.out.2.1,HYC.out.1] at o5;rw [I4.out.2.1,HYC.out.2];obtain ⟨pa5,pc5,sa5,sc5,wa5,wc5,ha5,hc5a,rfl,n5⟩:=Own0.of o5;have q5:Below w4.heap.size w4 w5:=below_up (by go_grown) b5 (by simp);have X5:Hid (Hx W x p k v w5):=X4.out.below q5;obtain ⟨y0,y1,y2,y3⟩:=X5.out.bs;obtain ⟨y4,y5,y6,-⟩:=X5.out.bx;(try simp only [World.size_alloc] at n5);have O5:Hid (Own0 w5 _ w5.heap.size Y (.slice pa5 Y.pn pc5) (.slice sa5 Y.sn sc5) (.slice wa5 Y.wn wc5) (.slice ha5 Y.hn hc5a)):=n5;obtain ⟨hc5,hf5⟩:=bcell b5;have k5:=b5.size;(try simp only [World.size_alloc,Nat.add_one_le_iff] at k5);have s5:w4.heap.size<=w5.heap.size:=q5.size;have Q5:Hid (Below w1.heap.size w1 w5):=Q4.out.trans (q5.mono Q4.out.size);clear o5 b5 q5 n5))
    all_goals
     go_wp2_with fail
     go_meet
     case rel=>
      first
      | (refine ⟨w5.heap.size, by with_reducible rfl, rfl, ?_⟩
         exact UtR.of_alloc Q5.out (by omega) (by omega) O5.out _)
      | (refine ⟨w4.heap.size, by with_reducible rfl, rfl, ?_⟩
         exact UtR.of_put (z0:=.slice none 0 0) (z1:=.slice none 0 0) (z2:=.slice none 0 0) (z3:=.slice none 0 0) Q5.out (by omega) (by omega) O5.out (by omega) (by omega) ⟨by rw [hc5 _ _ (by simp)];simp,by rw [hc5 _ _ (by simp)];simp,by rw [hc5 _ _ (by simp)];simp,by rw [hc5 _ _ (by simp)];simp⟩)
      | (refine ⟨w3.heap.size, by with_reducible rfl, rfl, ?_⟩
         exact UtR.of_put (z0:=.slice none 0 0) (z1:=.slice none 0 0) (z2:=.slice none 0 0) (z3:=.slice none 0 0) Q5.out (by omega) (by omega) O5.out (by omega) (by have:=k4;omega) ⟨by rw [hc5 _ _ k4,hc4 _ _ (by simp)];simp,by rw [hc5 _ _ k4,hc4 _ _ (by simp)];simp,by rw [hc5 _ _ k4,hc4 _ _ (by simp)];simp,by rw [hc5 _ _ k4,hc4 _ _ (by simp)];simp⟩)
      | (refine ⟨w2.heap.size, by with_reducible rfl, rfl, ?_⟩
         exact UtR.of_put (z0:=.slice none 0 0) (z1:=.slice none 0 0) (z2:=.slice none 0 0) (z3:=.slice none 0 0) Q5.out (by omega) (by omega) O5.out (by omega) (by have:=k24 k3;omega) ⟨by rw [hc5 _ _ (k24 k3),hc4 _ _ k3,hc3 _ _ (by simp)];simp,by rw [hc5 _ _ (k24 k3),hc4 _ _ k3,hc3 _ _ (by simp)];simp,by rw [hc5 _ _ (k24 k3),hc4 _ _ k3,hc3 _ _ (by simp)];simp,by rw [hc5 _ _ (k24 k3),hc4 _ _ k3,hc3 _ _ (by simp)];simp⟩)
      | (refine ⟨w1.heap.size, by with_reducible rfl, rfl, ?_⟩
         exact UtR.of_put (z0:=.slice none 0 0) (z1:=.slice none 0 0) (z2:=.slice none 0 0) (z3:=.slice none 0 0) Q5.out (by omega) (by omega) O5.out (by omega) (by have:=k14 k2;omega) ⟨by rw [hc5 _ _ (k14 k2),hc4 _ _ (k13 k2),hc3 _ _ k2,hc2 _ _ (by simp)];simp,by rw [hc5 _ _ (k14 k2),hc4 _ _ (k13 k2),hc3 _ _ k2,hc2 _ _ (by simp)];simp,by rw [hc5 _ _ (k14 k2),hc4 _ _ (k13 k2),hc3 _ _ k2,hc2 _ _ (by simp)];simp,by rw [hc5 _ _ (k14 k2),hc4 _ _ (k13 k2),hc3 _ _ k2,hc2 _ _ (by simp)];simp⟩)
 case rest=>
  obtain ⟨N8,rfl,rfl,HR⟩:=hcut
  rename World=>w2
  clear c0 c1 c2 c3 e0 e1 e2 d1 d2 hsz hsz2
  obtain ⟨B8,T8,pa,pc,sa,sc,wa,wc8,ha,hc,r1,r2,r3,r5,o2,b8⟩:=HR.out.2.2
  have X3:Hid (Hx W x p k v w2/\Own0 w2 B8 T8 Y (.slice pa Y.pn pc) (.slice sa Y.sn sc) (.slice wa Y.wn wc8) (.slice ha Y.hn hc)/\BoxC w2 N8 (.slice pa Y.pn pc) (.slice sa Y.sn sc) (.slice wa Y.wn wc8) (.slice ha Y.hn hc)/\T8<=w2.heap.size):=⟨X1.out.below HR.out.1,o2,b8,r2⟩
  clear r1 r2 r3 r5 o2 b8 HR X1 g1
  obtain ⟨-,⟨p0,p1,p2,p3⟩,-,lt⟩:=X3.out.1
  go_wp2_with fail
  clear p0 p1 p2 p3 lt
  refine (toSys_any x W w2 HS.out HA.out X3.out.1.be).mono ?_
  rintro e w3 ⟨v3,rfl,o3,b3⟩
  obtain ⟨x3,rfl,g3,y3,cp3,nn3⟩:=o3.g3
  have ba:=below_allocS w3 (oQ4 x3.pa x3.pn x3.pc x3.sa x3.sn x3.sc x3.wa x3.wn x3.wc x3.ha x3.hn x3.hc)
  have q3:=b3.trans (ba.mono b3.size)
  have F3:Hid (Hx W x p k v (w3.alloc (oQ4 x3.pa x3.pn x3.pc x3.sa x3.sn x3.sc x3.wa x3.wn x3.wc x3.ha x3.hn x3.hc))/\Own0 (w3.alloc (oQ4 x3.pa x3.pn x3.pc x3.sa x3.sn x3.sc x3.wa x3.wn x3.wc x3.ha x3.hn x3.hc)) B8 T8 Y (.slice pa Y.pn pc) (.slice sa Y.sn sc) (.slice wa Y.wn wc8) (.slice ha Y.hn hc)/\BoxC (w3.alloc (oQ4 x3.pa x3.pn x3.pc x3.sa x3.sn x3.sc x3.wa x3.wn x3.wc x3.ha x3.hn x3.hc)) N8 (.slice pa Y.pn pc) (.slice sa Y.sn sc) (.slice wa Y.wn wc8) (.slice ha Y.hn hc)):=⟨X3.out.1.below q3,X3.out.2.1.below q3,X3.out.2.2.1.below q3⟩
  have S3:Hid (IsSys (w3.alloc (oQ4 x3.pa x3.pn x3.pc x3.sa x3.sn x3.sc x3.wa x3.wn x3.wc x3.ha x3.hn x3.hc)) w2.heap.size w3.heap.size x x3.v/\BoxC (w3.alloc (oQ4 x3.pa x3.pn x3.pc x3.sa x3.sn x3.sc x3.wa x3.wn x3.wc x3.ha x3.hn x3.hc)) w3.heap.size (.slice x3.pa x3.pn x3.pc) (.slice x3.sa x3.sn x3.sc) (.slice x3.wa x3.wn x3.wc) (.slice x3.ha x3.hn x3.hc)):=⟨o3.below ba (Nat.le_refl _),BoxC.new w3 _ _ _ _ _⟩
  have Ga:Hid (SysG (w3.alloc (oQ4 x3.pa x3.pn x3.pc x3.sa x3.sn x3.sc x3.wa x3.wn x3.wc x3.ha x3.hn x3.hc)) x3/\x3.y=x.y/\x3.Nn true):=⟨g3.below ba,y3,nn3⟩
  have LT:Hid (W.heap.size+1<w2.heap.size/\T8<=w2.heap.size/\N8<w2.heap.size/\w2.heap.size<=w3.heap.size):=⟨X3.out.1.lt,X3.out.2.2.2,X3.out.2.2.1.ltF,b3.size⟩
  go_upto_region 10 with fail
  clear b3 o3 g3 y3 cp3 nn3 ba X3 q3
  generalize w2.heap.size=lo at *
  generalize w3.heap.size=T10 at *
  generalize w3.alloc (oQ4 x3.pa x3.pn x3.pc x3.sa x3.sn x3.sc x3.wa x3.wn x3.wc x3.ha x3.hn x3.hc)=wB at *
  clear w2 w3
  go_wp2_with fail
  refine (HP.out wB F3.out.1.be).mono ?_
  rintro e wL ⟨rfl,iL,zL,bL,fL⟩
  have XB:Hid (Hx W x p k v wL):=F3.out.1.below bL
  have F4:Hid (Own0 wL B8 T8 Y (.slice pa Y.pn pc) (.slice sa Y.sn sc) (.slice wa Y.wn wc8) (.slice ha Y.hn hc)/\BoxC wL N8 (.slice pa Y.pn pc) (.slice sa Y.sn sc) (.slice wa Y.wn wc8) (.slice ha Y.hn hc)):=⟨F3.out.2.1.below bL,F3.out.2.2.below bL⟩
  have UC:Hid (UtC x x3 lo T10 wB.heap.size n h wL):=⟨S3.out.1.below bL (Nat.le_of_lt S3.out.2.ltF),S3.out.2.below bL,iL,fL,zL⟩
  have GB:Hid (SysG wL x3/\x3.y=x.y/\x3.Nn true):=⟨Ga.out.1.below bL,Ga.out.2⟩
  have LTb:Hid (W.heap.size+1<lo/\T8<=lo/\N8<lo/\lo<=T10/\T10<wB.heap.size/\wB.heap.size<wL.heap.size):=⟨LT.out.1,LT.out.2.1,LT.out.2.2.1,LT.out.2.2.2,S3.out.2.ltF,zL⟩
  clear bL iL zL fL F3 S3 Ga LT
  generalize wB.heap.size=P at *
  clear wB
  go_upto_region 11 with fail
  obtain ⟨c0,c1,c2,c3⟩:=UC.out.b10
  obtain ⟨e0,e1,e2,-⟩:=XB.out.bx
  have g1:=XB.out.lt
  have g2:=UC.out.b10.ltF
  have d1:wL.heap.size≠T10:=by omega
  have d2:wL.heap.size≠W.heap.size+1:=by omega
  go_cut [12,13] from 43 to 50 (fun s t wx=>∃ N:Nat,s=.pointer (some ⟨N,0,none⟩)/\t=.int .i64 C/\Hid (UtR wL Y N wx))
  case first=>
    go_region_held3 (fun w'=>w'.cell? ⟨T10,0,none⟩=some (.slice x3.pa x3.pn x3.pc)/\w'.cell? ⟨T10,1,none⟩=some (.slice x3.sa x3.sn x3.sc)/\w'.cell? ⟨T10,2,none⟩=some (.slice x3.wa x3.wn x3.wc)/\w'.cell? ⟨T10,3,none⟩=some (.slice x3.ha x3.hn x3.hc)/\w'.cell? ⟨W.heap.size+1,0,none⟩=some (.int .i64 p)/\w'.cell? ⟨W.heap.size+1,1,none⟩=some (.int .i64 k)/\w'.cell? ⟨W.heap.size+1,2,none⟩=some (.int .i64 v)) (go_keep)
     (first
      | (go_at_call 23;refine (toStop_any p k v _).mono ?_;rintro e w4 ⟨rfl,b4⟩;have q4:Below wL.heap.size wL w4:=below_up (by go_grown) b4 (by simp);have X4:Hid (Hx W x p k v w4):=XB.out.below q4;have C4:Hid (UtC x x3 lo T10 P n h w4):=UC.out.below q4;have I4:Hid (SysG w4 x3/\x3.y=x.y/\x3.Nn true):=⟨GB.out.1.below q4,GB.out.2⟩;obtain ⟨u0,u1,u2,u3⟩:=C4.out.b10;obtain ⟨u4,u5,u6,-⟩:=X4.out.bx;have J4:Hid (PkL w4 (some ⟨P,0,none⟩) n h):=.inr ⟨_,0,rfl,C4.out.lt,C4.out.pk⟩;obtain ⟨hc4,hf4⟩:=bcell b4;have l4:=X4.out.lt;have lT4:=C4.out.b10.ltF;have d41:w4.heap.size≠T10:=(by omega);have d42:w4.heap.size≠W.heap.size+1:=(by omega);have k4:=b4.size;(try simp only [World.size_alloc,World.size_drew,Nat.add_one_le_iff] at k4);have s4:wL.heap.size<=w4.heap.size:=q4.size;have Q4:Hid (Below wL.heap.size wL w4):=q4;clear b4 q4)
      | (go_at_call 31;refine (implUntil_any x3 _ n _ h p k v _ (by first | exact I4.out.1 | exact I4.out.1.below ((Below.refl _ _).alloc (Nat.le_refl _) _)) (SysIn.len_of HS.out I4.out.2.1) I4.out.2.2 (by first | exact J4.out | exact J4.out.below ((Below.refl _ _).alloc (Nat.le_refl _) _)) HNn.out (by have h9:=X4.out.be;first | exact (h9.cell (p:=⟨0,0,none⟩) HV0.out).trans HV.out | exact ((h9.alloc (by have:=X4.out.lt;omega) _).cell (p:=⟨0,0,none⟩) HV0.out).trans HV.out)).mono ?_;rintro e w5 ⟨v5,rfl,o5,b5⟩;rw [I4.out.2.1,HYC.out.1] at o5;rw [I4.out.2.1,HYC.out.2];obtain ⟨pa5,pc5,sa5,sc5,wa5,wc5,ha5,hc5a,rfl,n5⟩:=Own0.of o5;have q5:Below w4.heap.size w4 w5:=below_up (by go_grown) b5 (by simp);have X5:Hid (Hx W x p k v w5):=X4.out.below q5;obtain ⟨y0,y1,y2,y3⟩:=C4.out.b10.below q5;obtain ⟨y4,y5,y6,-⟩:=X5.out.bx;(try simp only [World.size_alloc] at n5);have O5:Hid (Own0 w5 _ w5.heap.size Y (.slice pa5 Y.pn pc5) (.slice sa5 Y.sn sc5) (.slice wa5 Y.wn wc5) (.slice ha5 Y.hn hc5a)):=n5;obtain ⟨hc5,hf5⟩:=bcell b5;have k5:=b5.size;(try simp only [World.size_alloc,Nat.add_one_le_iff] at k5);have s5:w4.heap.size<=w5.heap.size:=q5.size;have Q5:Hid (Below wL.heap.size wL w5):=Q4.out.trans (q5.mono Q4.out.size);clear o5 b5 q5 n5))
    all_goals
     go_wp2_with fail
     go_meet
     case rel=>
      first
      | (refine ⟨w5.heap.size, by with_reducible rfl, rfl, ?_⟩
         exact UtR.of_alloc Q5.out (by omega) (by omega) O5.out _)
      | (refine ⟨w4.heap.size, by with_reducible rfl, rfl, ?_⟩
         exact UtR.of_put (z0:=.slice none 0 0) (z1:=.slice none 0 0) (z2:=.slice none 0 0) (z3:=.slice none 0 0) Q5.out (by omega) (by omega) O5.out (by omega) (by omega) ⟨by rw [hc5 _ _ (by simp)];simp,by rw [hc5 _ _ (by simp)];simp,by rw [hc5 _ _ (by simp)];simp,by rw [hc5 _ _ (by simp)];simp⟩)
      | (refine ⟨wL.heap.size, by with_reducible rfl, rfl, ?_⟩
         exact UtR.of_put (z0:=.slice none 0 0) (z1:=.slice none 0 0) (z2:=.slice none 0 0) (z3:=.slice none 0 0) Q5.out (by omega) (by omega) O5.out (by omega) (by have:=k4;omega) ⟨by rw [hc5 _ _ k4,hc4 _ _ (by simp)];simp,by rw [hc5 _ _ k4,hc4 _ _ (by simp)];simp,by rw [hc5 _ _ k4,hc4 _ _ (by simp)];simp,by rw [hc5 _ _ k4,hc4 _ _ (by simp)];simp⟩)
  case rest=>
   obtain ⟨N4,rfl,rfl,HR⟩:=hcut
   rename World=>w4
   clear c0 c1 c2 c3 e0 e1 e2 d1 d2 GB
   obtain ⟨B4,T4,qa,qc,ra,rc,ta,tc,ua,uc,r1,r2,r3,r5,o4,b4⟩:=HR.out.2.2
   have F5:Hid (UtG W x p k v Y Y B8 T8 N8 B4 T4 N4 (.slice pa Y.pn pc) (.slice sa Y.sn sc) (.slice wa Y.wn wc8) (.slice ha Y.hn hc) (.slice qa Y.pn qc) (.slice ra Y.sn rc) (.slice ta Y.wn tc) (.slice ua Y.hn uc) w4):=⟨XB.out.below HR.out.1,F4.out.1.below HR.out.1,F4.out.2.below HR.out.1,o4,b4⟩
   have C5:Hid (UtC x x3 lo T10 P n h w4):=UC.out.below HR.out.1
   have LT2:Hid ((W.heap.size+1<lo/\T8<=lo/\N8<lo/\lo<=T10/\T10<P)/\P<B4/\P<N4/\(N4<B4\/T4<=N4)/\B4<=w4.heap.size):=by
    have h9:=LTb.out
    have h8:=HR.out.2.1
    exact ⟨⟨h9.1,h9.2.1,h9.2.2.1,h9.2.2.2.1,h9.2.2.2.2.1⟩,by omega,by omega,r3,r5⟩
   clear r1 r2 r3 r5 o4 b4 HR XB F4 UC LTb g1 g2
   obtain ⟨p0,p1,p2,p3⟩:=F5.out.b8
   obtain ⟨q0,q1,q2,q3⟩:=F5.out.b4
   go_wp2_with fail
   clear p0 p1 p2 p3 q0 q1 q2 q3
   refine (eqSys_own Y B4 B8 _ _ w4 HSM.out.len F5.out.o4.sys F5.out.o2.sys).mono ?_
   rintro e w5 ⟨rfl,b5⟩
   have F6:Hid (UtG W x p k v Y Y B8 T8 N8 B4 T4 N4 (.slice pa Y.pn pc) (.slice sa Y.sn sc) (.slice wa Y.wn wc8) (.slice ha Y.hn hc) (.slice qa Y.pn qc) (.slice ra Y.sn rc) (.slice ta Y.wn tc) (.slice ua Y.hn uc) w5):=F5.out.below b5
   have C6:Hid (UtC x x3 lo T10 P n h w5):=C5.out.below b5
   have L6:Hid (B4<=w5.heap.size):=zS LT2.out.2.2.2.2 b5.size
   clear b5 F5 C5
   go_upto_region 14 with fail
   go_cut [64] from 60 to 63 (fun t wx=>t=.bool false/\Hid (Below w5.heap.size w5 wx))
   case first=>
    obtain ⟨-,⟨p0,p1,p2,p3⟩,-,lt⟩:=F6.out.hx
    obtain ⟨q0,q1,q2,q3⟩:=C6.out.b10
    have lq:=C6.out.b10.ltF
    first|(go_region_with (first|(go_at_call 22;refine (toSys_any x W _ HS.out HA.out (by exact F6.out.hx.be.drew)).mono ?_;rintro e w6 ⟨v6,rfl,o6,b6⟩;have q6:Below w5.heap.size w5 w6:=(Below.refl w5.heap.size w5).drew.trans b6;have T6:Hid (∃ l,IsSys w6 l w6.heap.size x v6):=⟨_,o6⟩;obtain ⟨r0,r1,r2,r3⟩:=C6.out.b10.below q6;have Q6:Hid (Below w5.heap.size w5 w6):=q6;clear o6 b6 q6)|(go_at_call 25;refine (eqSys_same x lo T10 T6.out.choose _ _ v6 w6 HS.out (C6.out.s3.below Q6.out (Nat.le_of_lt C6.out.b10.ltF)) T6.out.choose_spec).mono ?_;rintro e w7 ⟨rfl,b7⟩;have Q7:Hid (Below w5.heap.size w5 w7):=Q6.out.trans (b7.mono Q6.out.size);clear b7))) | fail
    all_goals
     go_wp2_with fail
     go_meet
     case rel=>exact ⟨rfl,Q7.out⟩
   case rest=>
    obtain ⟨rfl,HB7⟩:=hcut
    rename World=>w7
    have F7:Hid (UtG W x p k v Y Y B8 T8 N8 B4 T4 N4 (.slice pa Y.pn pc) (.slice sa Y.sn sc) (.slice wa Y.wn wc8) (.slice ha Y.hn hc) (.slice qa Y.pn qc) (.slice ra Y.sn rc) (.slice ta Y.wn tc) (.slice ua Y.hn uc) w7):=F6.out.below HB7.out
    have C7:Hid (UtC x x3 lo T10 P n h w7):=C6.out.below HB7.out
    have L7:Hid (B4<=w7.heap.size):=zS L6.out HB7.out.size
    clear HB7 F6 C6 L6
    go_wp2_with fail
    refine (HP.out w7 F7.out.hx.be).mono ?_
    rintro e wD ⟨rfl,iD,zD,bD,-⟩
    have SD:Hid (P<wD.heap.size/\PkAt wD P 0 n h/\w7.heap.size<wD.heap.size/\PkAt wD w7.heap.size 0 n h):=⟨zP C7.out.lt bD.size,C7.out.pk.below bD C7.out.lt,zD,iD⟩
    go_wp2_with fail
    refine (eqPickS_same _ _ n _ _ h wD HNn.out SD.out.1 SD.out.2.2.1 SD.out.2.1 SD.out.2.2.2).mono ?_
    rintro e wE ⟨rfl,bE⟩
    have bDE:Below w7.heap.size w7 wE:=bD.trans (bE.mono bD.size)
    have FE:Hid (UtG W x p k v Y Y B8 T8 N8 B4 T4 N4 (.slice pa Y.pn pc) (.slice sa Y.sn sc) (.slice wa Y.wn wc8) (.slice ha Y.hn hc) (.slice qa Y.pn qc) (.slice ra Y.sn rc) (.slice ta Y.wn tc) (.slice ua Y.hn uc) wE):=F7.out.below bDE
    have CE:Hid (UtC x x3 lo T10 P n h wE):=C7.out.below bDE
    have LE:Hid (B4<=wE.heap.size):=zS L7.out bDE.size
    clear bD bE bDE iD zD SD F7 C7 L7
    obtain ⟨q0,q1,q2,q3⟩:=CE.out.b10
    go_wp2_with fail
    clear q0 q1 q2 q3
    refine (markSys_le x _ _ _ wE HS.out CE.out.s3).mono ?_
    rintro e w8a ⟨⟨z,rfl,hz,hz9⟩,t8⟩
    have F8a:Hid (UtG W x p k v Y Y B8 T8 N8 B4 T4 N4 (.slice pa Y.pn pc) (.slice sa Y.sn sc) (.slice wa Y.wn wc8) (.slice ha Y.hn hc) (.slice qa Y.pn qc) (.slice ra Y.sn rc) (.slice ta Y.wn tc) (.slice ua Y.hn uc) w8a):=FE.out.touch t8 fun b hb=>by have:=LT2.out;omega
    have P8:Hid (RoomPk w8a P n):=by
     have hne:¬ (lo<=P/\P<T10):=by have:=LT2.out;omega
     have hb:=t8.block P CE.out.lt hne
     exact RoomPk.of_row (CE.out.pk.blk hb) fun j=>(zJ hb).trans (CE.out.fz j)
    have L8a:Hid (B4<=w8a.heap.size):=zS LE.out t8.size
    clear t8 FE CE LE
    go_wp2_with fail
    refine (markPickS_any P n n z w8a HNn.out (by omega) (by omega) P8.out).mono ?_
    rintro e w8 ⟨rfl,g8⟩
    have hzc:¬ (z+2*(n:Int)<0):=by have:=HNn.out;omega
    have F8:Hid (UtG W x p k v Y Y B8 T8 N8 B4 T4 N4 (.slice pa Y.pn pc) (.slice sa Y.sn sc) (.slice wa Y.wn wc8) (.slice ha Y.hn hc) (.slice qa Y.pn qc) (.slice ra Y.sn rc) (.slice ta Y.wn tc) (.slice ua Y.hn uc) w8):=F8a.out.touch (Touch.of_grown (P:=fun b=>b=P) g8 fun b e=>by injection e with e;exact e.symm) fun b hb=>by have:=LT2.out;omega
    have L8:Hid (B4<=w8.heap.size):=zS L8a.out g8.size
    clear g8 F8a P8 L8a
    obtain ⟨p0,p1,p2,p3⟩:=F8.out.b8
    obtain ⟨q0,q1,q2,q3⟩:=F8.out.b4
    go_wp2_with fail
    clear p0 p1 p2 p3 q0 q1 q2 q3
    refine (eqSys_own Y B4 B8 _ _ w8 HSM.out.len F8.out.o4.sys F8.out.o2.sys).mono ?_
    rintro e w9 ⟨rfl,b9⟩
    have F9:Hid (UtG W x p k v Y Y B8 T8 N8 B4 T4 N4 (.slice pa Y.pn pc) (.slice sa Y.sn sc) (.slice wa Y.wn wc8) (.slice ha Y.hn hc) (.slice qa Y.pn qc) (.slice ra Y.sn rc) (.slice ta Y.wn tc) (.slice ua Y.hn uc) w9):=F8.out.below b9
    have L9:Hid (B4<=w9.heap.size):=zS L8.out b9.size
    clear b9 F8 L8
    obtain ⟨q0,q1,q2,q3⟩:=F9.out.b4
    go_wp2_with fail
    clear q0 q1 q2 q3
    refine (markSys_0 Y B4 T4 _ _ _ _ w9 HSM.out.sums L9.out F9.out.o4).mono ?_
    rintro e w10 ⟨rfl,o10,t10⟩
    have F10:Hid (UtG W x p k v Y (mkY Y 1) B8 T8 N8 B4 T4 N4 (.slice pa Y.pn pc) (.slice sa Y.sn sc) (.slice wa Y.wn wc8) (.slice ha Y.hn hc) (.slice qa Y.pn qc) (.slice ra Y.sn rc) (.slice ta Y.wn tc) (.slice ua Y.hn uc) w10):=F9.out.mark t10 o10 (by have:=LT2.out;omega) (by have:=LT2.out;omega) (by have:=LT2.out;omega) LT2.out.2.2.2.1
    have HZ:Hid (¬ mkZ5 Y 1<0):=by
     have:=(mkZ_bd HSM.out.sums).2.2.2
     show ¬ mkZ5 Y 1<0
     omega
    clear t10 o10 F9 L9
    obtain ⟨q0,q1,q2,q3⟩:=F10.out.b4
    go_wp2_with fail
    clear q0 q1 q2 q3
    refine (heldSys_own Y B4 _ w10 HSM.out.sums F10.out.o4.sys).mono ?_
    rintro e w11 ⟨rfl,b11⟩
    have F11:Hid (UtG W x p k v Y (mkY Y 1) B8 T8 N8 B4 T4 N4 (.slice pa Y.pn pc) (.slice sa Y.sn sc) (.slice wa Y.wn wc8) (.slice ha Y.hn hc) (.slice qa Y.pn qc) (.slice ra Y.sn rc) (.slice ta Y.wn tc) (.slice ua Y.hn uc) w11):=F10.out.below b11
    clear b11 F10
    have hz5:=HZ.out
    go_upto_region 31 with fail
    clear hz5
    have X11:Hid (Hx W x p k v w11):=F11.out.hx
    obtain ⟨c0,c1,c2,c3⟩:=X11.out.bs
    obtain ⟨e0,e1,e2,-⟩:=X11.out.bx
    have g1:=X11.out.lt
    have d1:w11.heap.size≠W.heap.size:=by omega
    have d2:w11.heap.size≠W.heap.size+1:=by omega
    go_cut [17,18] from 100 to 109 (fun s t wx=>∃ N:Nat,s=.pointer (some ⟨N,0,none⟩)/\t=.int .i64 C/\Hid (UtR w11 Y N wx))
    case first=>
     go_region_held3 (fun w'=>w'.cell? ⟨W.heap.size,0,none⟩=some (.slice x.pa x.pn x.pc)/\w'.cell? ⟨W.heap.size,1,none⟩=some (.slice x.sa x.sn x.sc)/\w'.cell? ⟨W.heap.size,2,none⟩=some (.slice x.wa x.wn x.wc)/\w'.cell? ⟨W.heap.size,3,none⟩=some (.slice x.ha x.hn x.hc)/\w'.cell? ⟨W.heap.size+1,0,none⟩=some (.int .i64 p)/\w'.cell? ⟨W.heap.size+1,1,none⟩=some (.int .i64 k)/\w'.cell? ⟨W.heap.size+1,2,none⟩=some (.int .i64 v)) (go_keep)
      (first
       | (go_at_call 22;refine (toSys_any x W _ HS.out HA.out (by have:=X11.out.be;go_grown)).mono ?_;rintro e w2 ⟨v2,rfl,o2,b2⟩;obtain ⟨x2,rfl,g2,y2,cp2,nn2⟩:=o2.g3;have q2:Below w11.heap.size w11 w2:=below_up (by go_grown) b2 (by simp);have X2:Hid (Hx W x p k v w2):=X11.out.below q2;obtain ⟨m0,m1,m2,m3⟩:=X2.out.bs;obtain ⟨m4,m5,m6,-⟩:=X2.out.bx;have I2:Hid (SysG w2 x2/\x2.y=x.y/\x2.Nn true):=⟨g2,y2,nn2⟩;obtain ⟨hc2,hf2⟩:=bcell b2;have l2:=X2.out.lt;have d21:w2.heap.size≠W.heap.size:=(by omega);have d22:w2.heap.size≠W.heap.size+1:=(by omega);have k2:=b2.size;(try simp only [World.size_alloc,World.size_drew,Nat.add_one_le_iff] at k2);have s2:w11.heap.size<=w2.heap.size:=q2.size;have Q2:Hid (Below w11.heap.size w11 w2):=q2;clear o2 b2 q2 g2 y2 cp2 nn2)
       | (go_at_call 30;refine (HP.out _ (by have:=X2.out.be;go_grown)).mono ?_;rintro e w3 ⟨rfl,i3,z3,b3,-⟩;have q3:Below w2.heap.size w2 w3:=below_up (by go_grown) b3 (by simp);have X3:Hid (Hx W x p k v w3):=X2.out.below q3;obtain ⟨n0,n1,n2,n3⟩:=X3.out.bs;obtain ⟨n4,n5,n6,-⟩:=X3.out.bx;(try simp only [World.size_alloc] at i3 z3);have J3:Hid (PkL w3 (some ⟨_,0,none⟩) n h):=.inr ⟨_,0,rfl,z3,i3⟩;have I3:Hid (SysG w3 x2/\x2.y=x.y/\x2.Nn true):=⟨I2.out.1.below q3,I2.out.2⟩;obtain ⟨hc3,hf3⟩:=bcell b3;have l3:=X3.out.lt;have d31:w3.heap.size≠W.heap.size:=(by omega);have d32:w3.heap.size≠W.heap.size+1:=(by omega);have k3:=b3.size;(try simp only [World.size_alloc,Nat.add_one_le_iff] at k3);have s3:w2.heap.size<=w3.heap.size:=q3.size;have k13:w11.heap.size<w2.heap.size->w11.heap.size<w3.heap.size:=(fun h=>by omega);have Q3:Hid (Below w11.heap.size w11 w3):=Q2.out.trans (q3.mono Q2.out.size);clear b3 q3 i3 z3)
       | (go_at_call 23;refine (toStop_any p k v _).mono ?_;rintro e w4 ⟨rfl,b4⟩;have q4:Below w3.heap.size w3 w4:=below_up (by go_grown) b4 (by simp);have X4:Hid (Hx W x p k v w4):=X3.out.below q4;obtain ⟨u0,u1,u2,u3⟩:=X4.out.bs;obtain ⟨u4,u5,u6,-⟩:=X4.out.bx;have J4:Hid (PkL w4 (some ⟨_,0,none⟩) n h):=J3.out.below q4;have I4:Hid (SysG w4 x2/\x2.y=x.y/\x2.Nn true):=⟨I3.out.1.below q4,I3.out.2⟩;obtain ⟨hc4,hf4⟩:=bcell b4;have l4:=X4.out.lt;have d41:w4.heap.size≠W.heap.size:=(by omega);have d42:w4.heap.size≠W.heap.size+1:=(by omega);have k4:=b4.size;(try simp only [World.size_alloc,Nat.add_one_le_iff] at k4);have s4:w3.heap.size<=w4.heap.size:=q4.size;have k14:w11.heap.size<w2.heap.size->w11.heap.size<w4.heap.size:=(fun h=>by omega);have k24:w2.heap.size<w3.heap.size->w2.heap.size<w4.heap.size:=(fun h=>by omega);have Q4:Hid (Below w11.heap.size w11 w4):=Q3.out.trans (q4.mono Q3.out.size);clear b4 q4)
       | (go_at_call 31;refine (implUntil_any x2 _ n _ h p k v _ (by first | exact I4.out.1 | exact I4.out.1.below ((Below.refl _ _).alloc (Nat.le_refl _) _)) (SysIn.len_of HS.out I4.out.2.1) I4.out.2.2 (by first | exact J4.out | exact J4.out.below ((Below.refl _ _).alloc (Nat.le_refl _) _)) HNn.out (by have h9:=X4.out.be;first | exact (h9.cell (p:=⟨0,0,none⟩) HV0.out).trans HV.out | exact ((h9.alloc (by have:=X4.out.lt;omega) _).cell (p:=⟨0,0,none⟩) HV0.out).trans HV.out)).mono ?_;rintro e w5 ⟨v5,rfl,o5,b5⟩;rw [I4.out.2.1,HYC.out.1] at o5;rw [I4.out.2.1,HYC.out.2];obtain ⟨pa5,pc5,sa5,sc5,wa5,wc5,ha5,hc5a,rfl,n5⟩:=Own0.of o5;have q5:Below w4.heap.size w4 w5:=below_up (by go_grown) b5 (by simp);have X5:Hid (Hx W x p k v w5):=X4.out.below q5;obtain ⟨y0,y1,y2,y3⟩:=X5.out.bs;obtain ⟨y4,y5,y6,-⟩:=X5.out.bx;(try simp only [World.size_alloc] at n5);have O5:Hid (Own0 w5 _ w5.heap.size Y (.slice pa5 Y.pn pc5) (.slice sa5 Y.sn sc5) (.slice wa5 Y.wn wc5) (.slice ha5 Y.hn hc5a)):=n5;obtain ⟨hc5,hf5⟩:=bcell b5;have k5:=b5.size;(try simp only [World.size_alloc,Nat.add_one_le_iff] at k5);have s5:w4.heap.size<=w5.heap.size:=q5.size;have Q5:Hid (Below w11.heap.size w11 w5):=Q4.out.trans (q5.mono Q4.out.size);clear o5 b5 q5 n5))
     all_goals
      go_wp2_with fail
      go_meet
      case rel=>
       first
       | (refine ⟨w5.heap.size, by with_reducible rfl, rfl, ?_⟩
          exact UtR.of_alloc Q5.out (by omega) (by omega) O5.out _)
       | (refine ⟨w4.heap.size, by with_reducible rfl, rfl, ?_⟩
          exact UtR.of_put (z0:=.slice none 0 0) (z1:=.slice none 0 0) (z2:=.slice none 0 0) (z3:=.slice none 0 0) Q5.out (by omega) (by omega) O5.out (by omega) (by omega) ⟨by rw [hc5 _ _ (by simp)];simp,by rw [hc5 _ _ (by simp)];simp,by rw [hc5 _ _ (by simp)];simp,by rw [hc5 _ _ (by simp)];simp⟩)
       | (refine ⟨w3.heap.size, by with_reducible rfl, rfl, ?_⟩
          exact UtR.of_put (z0:=.slice none 0 0) (z1:=.slice none 0 0) (z2:=.slice none 0 0) (z3:=.slice none 0 0) Q5.out (by omega) (by omega) O5.out (by omega) (by have:=k4;omega) ⟨by rw [hc5 _ _ k4,hc4 _ _ (by simp)];simp,by rw [hc5 _ _ k4,hc4 _ _ (by simp)];simp,by rw [hc5 _ _ k4,hc4 _ _ (by simp)];simp,by rw [hc5 _ _ k4,hc4 _ _ (by simp)];simp⟩)
       | (refine ⟨w2.heap.size, by with_reducible rfl, rfl, ?_⟩
          exact UtR.of_put (z0:=.slice none 0 0) (z1:=.slice none 0 0) (z2:=.slice none 0 0) (z3:=.slice none 0 0) Q5.out (by omega) (by omega) O5.out (by omega) (by have:=k24 k3;omega) ⟨by rw [hc5 _ _ (k24 k3),hc4 _ _ k3,hc3 _ _ (by simp)];simp,by rw [hc5 _ _ (k24 k3),hc4 _ _ k3,hc3 _ _ (by simp)];simp,by rw [hc5 _ _ (k24 k3),hc4 _ _ k3,hc3 _ _ (by simp)];simp,by rw [hc5 _ _ (k24 k3),hc4 _ _ k3,hc3 _ _ (by simp)];simp⟩)
       | (refine ⟨w11.heap.size, by with_reducible rfl, rfl, ?_⟩
          exact UtR.of_put (z0:=.slice none 0 0) (z1:=.slice none 0 0) (z2:=.slice none 0 0) (z3:=.slice none 0 0) Q5.out (by omega) (by omega) O5.out (by omega) (by have:=k14 k2;omega) ⟨by rw [hc5 _ _ (k14 k2),hc4 _ _ (k13 k2),hc3 _ _ k2,hc2 _ _ (by simp)];simp,by rw [hc5 _ _ (k14 k2),hc4 _ _ (k13 k2),hc3 _ _ k2,hc2 _ _ (by simp)];simp,by rw [hc5 _ _ (k14 k2),hc4 _ _ (k13 k2),hc3 _ _ k2,hc2 _ _ (by simp)];simp,by rw [hc5 _ _ (k14 k2),hc4 _ _ (k13 k2),hc3 _ _ k2,hc2 _ _ (by simp)];simp⟩)
    case rest=>
     obtain ⟨N7,rfl,rfl,HR⟩:=hcut
     rename World=>w12
     clear c0 c1 c2 c3 e0 e1 e2 d1 d2 X11 g1
     have F12:Hid (UtG W x p k v Y (mkY Y 1) B8 T8 N8 B4 T4 N4 (.slice pa Y.pn pc) (.slice sa Y.sn sc) (.slice wa Y.wn wc8) (.slice ha Y.hn hc) (.slice qa Y.pn qc) (.slice ra Y.sn rc) (.slice ta Y.wn tc) (.slice ua Y.hn uc) w12):=F11.out.below HR.out.1
     obtain ⟨B7,T7,va,vc,vsa,vsc,vwa,vwc,vha,vhc,-,-,-,-,o7,b7⟩:=HR.out.2.2
     have O7:Hid (Own0 w12 B7 T7 Y (.slice va Y.pn vc) (.slice vsa Y.sn vsc) (.slice vwa Y.wn vwc) (.slice vha Y.hn vhc)):=o7
     obtain ⟨q0,q1,q2,q3⟩:=b7
     obtain ⟨p0,p1,p2,p3⟩:=F12.out.b8
     clear HR F11 o7
     go_wp2_with fail
     clear p0 p1 p2 p3 q0 q1 q2 q3
     refine (eqSys_own Y B7 B8 _ _ w12 HSM.out.len O7.out.sys F12.out.o2.sys).mono ?_
     rintro e w13 ⟨rfl,b13⟩
     have F13:Hid (UtG W x p k v Y (mkY Y 1) B8 T8 N8 B4 T4 N4 (.slice pa Y.pn pc) (.slice sa Y.sn sc) (.slice wa Y.wn wc8) (.slice ha Y.hn hc) (.slice qa Y.pn qc) (.slice ra Y.sn rc) (.slice ta Y.wn tc) (.slice ua Y.hn uc) w13):=F12.out.below b13
     clear b13 F12 O7
     obtain ⟨q0,q1,q2,q3⟩:=F13.out.b4
     go_wp2_with fail
     clear q0 q1 q2 q3
     refine (heldSys_own Y B4 _ w13 HSM.out.sums F13.out.o4.sys).mono ?_
     rintro e w14 ⟨rfl,b14⟩
     have X14:Hid (Hx W x p k v w14):=(F13.out.below b14).hx
     clear b14 F13
     have hz5:=HZ.out
     go_wp2
     go_ret
     exact ⟨rfl,X14.out.be⟩
theorem untilLaw_great (x:SysIn) (la:Option Addr) (n lc:Nat) (p k v:Int) (W:World) (hr:x.Row W) (hm:x.Max) (hs:1048576<x.size):
  Calls Tryz.prog 6 #[sysV x.pa x.pn x.pc x.sa x.sn x.sc x.wa x.wn x.wc x.ha x.hn x.hc,.slice la n lc,spV p k v] W fun e w'=>e=.returned (.bool true)/\Below W.heap.size W w':=by
 have HR:Hid (x.Row W):=hr
 have HM:Hid x.Max:=hm
 have HS:Hid (1048576<x.size):=hs
 have X0:Hid (Hx W x p k v ((W.alloc (.cells #[.slice x.pa x.pn x.pc,.slice x.sa x.sn x.sc,.slice x.wa x.wn x.wc,.slice x.ha x.hn x.hc] 43)).alloc (.cells #[.int .i64 p,.int .i64 k,.int .i64 v] 45))):=Hx.new W x p k v _ _
 clear hr hm hs
 go_enter Tryz.func6,Tryz.ntmps6
 go_wp2_with fail
 generalize (W.alloc (.cells #[.slice x.pa x.pn x.pc,.slice x.sa x.sn x.sc,.slice x.wa x.wn x.wc,.slice x.ha x.hn x.hc] 43)).alloc (.cells #[.int .i64 p,.int .i64 k,.int .i64 v] 45)=wA at *
 refine (szSys_great x wA (HR.out.below X0.out.be) HM.out HS.out).mono ?_
 rintro e w0 ⟨rfl,b0⟩
 have B0:Hid (Below W.heap.size W w0):=(X0.out.below b0).be
 clear b0
 go_wp2
 go_ret
 exact ⟨rfl,B0.out⟩
theorem untilLaw_long (x:SysIn) (la:Option Addr) (n lc:Nat) (p k v:Int) (W:World) (hs:x.size<=1048576) (hA:x.Ok W) (hn:1048576<x.size+n) (hm:n<=maxLen):
  Calls Tryz.prog 6 #[sysV x.pa x.pn x.pc x.sa x.sn x.sc x.wa x.wn x.wc x.ha x.hn x.hc,.slice la n lc,spV p k v] W fun e w'=>e=.returned (.bool true)/\Below W.heap.size W w':=by
 have HS:Hid (x.size<=1048576/\1048576 - (x.size:Int)<(n:Int)/\0<=1048576 - (x.size:Int)/\1048576 - (x.size:Int)<=1048576/\n<=maxLen):=⟨hs,by omega,by omega,by omega,hm⟩
 have HA:Hid (x.Ok W):=hA
 have hsz:¬ (1048576 - (x.size:Int)<0):=by omega
 have X0:Hid (Hx W x p k v ((W.alloc (.cells #[.slice x.pa x.pn x.pc,.slice x.sa x.sn x.sc,.slice x.wa x.wn x.wc,.slice x.ha x.hn x.hc] 43)).alloc (.cells #[.int .i64 p,.int .i64 k,.int .i64 v] 45))):=Hx.new W x p k v _ _
 clear hs hA hn hm
 go_enter Tryz.func6,Tryz.ntmps6
 go_wp2_with fail
 generalize (W.alloc (.cells #[.slice x.pa x.pn x.pc,.slice x.sa x.sn x.sc,.slice x.wa x.wn x.wc,.slice x.ha x.hn x.hc] 43)).alloc (.cells #[.int .i64 p,.int .i64 k,.int .i64 v] 45)=wA at *
 refine (szSys_small x wA (HA.out.row.below X0.out.be) HS.out.1).mono ?_
 rintro e w0 ⟨rfl,b0⟩
 have X1:Hid (Hx W x p k v w0):=X0.out.below b0
 clear b0 X0
 go_wp2_with fail
 refine (szPickS_great la n lc _ w0 HS.out.2.1 HS.out.2.2.1 HS.out.2.2.2.1 HS.out.2.2.2.2).mono ?_
 rintro e w1 ⟨rfl,rfl⟩
 go_wp2
 go_ret
 exact ⟨rfl,X1.out.be⟩
theorem untilLifted (os:Os) (started:os.Started) (H:Type) (enc:TypeId × Value->H):
  ReturnsInHanded {} Tryz.checked os 6 .any (fun w args => (Rows.fnExactUntilSpec.pre enc Tryz.prog Tryz.f6 [] false w args /\ laidMetH Tryz.prog [("errors.errorType", Rows.laid_errors_errorType)] w) /\ sizedMet enc Tryz.prog Tryz.f6 (OpenSpec.ofChange Rows.fnExactUntilSpec) false w args)
   (Rows.fnExactUntilSpec.post enc Tryz.prog Tryz.f6 false true false false):=by
 refine returnsInHanded_of_change_and (C := Tryz.checked) (X := fun w _ => laidMetH Tryz.prog [("errors.errorType", Rows.laid_errors_errorType)] w) (fun _ _ _ hh h => h.of_heap hh) Tryz.own started (by kernel_rfl) Tryz.func6
  (ChangeSpec.witness_at (enc := enc) (C := Tryz.checked) (os := os) (X := fun w _ => laidMetH Tryz.prog [("errors.errorType", Rows.laid_errors_errorType)] w) false (laidWorld os) #[sysV none 0 0 none 0 0 none 0 0 none 0 0, .slice none 0 0, spV 0 0 0] 8 rfl (by kernel_rfl) (by kernel_rfl) (by kernel_rfl) (by kernel_rfl) (by kernel_rfl) (laidWorld_met os _)) ?_
 intro W base args ds gs before hval0 hW _ _ hL _
 have hval:∀ (j:Nat) t v,Tryz.f6.params[j]? = some t->args[j]? = some v->Value.okWide Tryz.prog W .any base t v:=hval0
 have hW':=hW
 obtain ⟨p,q,hA0,hV,rfl,hfz,hnd⟩:=hW
 have hA:DataW.TrodAll enc Tryz.prog W 0 (fun _=>true) true Tryz.f6.params.toList args.toList ds p:=hA0
 rw [Tryz.params6] at hA hval
 obtain ⟨v0,v1,v2,d0,d1,d2,p0,p1,p2,rfl,rfl,rfl,h0,h1,h2⟩:=trodAll_three hA
 obtain ⟨rfl,rfl⟩:=trodVars_none hV
 obtain ⟨la,n,lc,rfl⟩:=okWide_slice Tryz.underlying53 (hval 1 53 v1 rfl rfl)
 obtain ⟨z1,z2,z3,rfl⟩:=open_stop (hval 2 45 v2 rfl rfl) h2
 obtain ⟨hnl,hrow⟩:=open_pkRow h1
 have lt0:∀ x ∈ p0,x.block<W.heap.size:=by obtain ⟨m,hm⟩:=h0;exact DataW.trod_lt m _ _ _ hm
 have lt1:∀ x ∈ p1,x.block<W.heap.size:=by obtain ⟨m,hm⟩:=h1;exact DataW.trod_lt m _ _ _ hm
 have lt2:∀ x ∈ p2,x.block<W.heap.size:=by obtain ⟨m,hm⟩:=h2;exact DataW.trod_lt m _ _ _ hm
 have hg:=handle_of_laid hL
 clear hA0 hval0
 have hlaw:Calls Tryz.prog 6 #[v0,.slice la n lc,spV z1 z2 z3] W fun e w'=>e=.returned (.bool true)/\Below W.heap.size W w':=by
  obtain ⟨x,e,hr,hm,hy⟩:=open_sys (hval 0 43 v0 rfl rfl) h0
  by_cases hs:x.size<=1048576
  ·obtain ⟨y,ey,hok,hys⟩:=hy hs
   rw [ey]
   by_cases hn:y.size+n<=1048576
   ·obtain ⟨h,hP⟩:=copiesPk_of (cap:=lc) (by omega) hrow
    exact untilLaw_small y la n lc h z1 z2 z3 W hn hok hP hg
   ·exact untilLaw_long y la n lc z1 z2 z3 W hys hok (by omega) hnl
  ·rw [e]
   exact untilLaw_great x la n lc z1 z2 z3 W hr hm (by omega)
 refine hlaw.mono fun e W' ⟨he,bel⟩=>?_
 subst he
 exact ⟨_,rfl,_,_,_,[],_,[],hW',trodAll_mk1 (shut_bool Tryz.underlying4 _),(trodAll_cons_mk (Below.trod Tryz.laidOut (by kernel_rfl) (of_decide_eq_true (by kernel_rfl)) h0 bel lt0) (trodAll_cons_mk (Below.trod Tryz.laidOut (by kernel_rfl) (of_decide_eq_true (by kernel_rfl)) h1 bel lt1) (trodAll_cons_mk (Below.trod Tryz.laidOut (by kernel_rfl) (of_decide_eq_true (by kernel_rfl)) h2 bel lt2) trodAll_mk0))),rfl,bel.frame _,fun h=>by cases h⟩
theorem untilSaid:Rows.FnExactUntilSaid:=
 OpenClaim.holds_of_wide 6 Tryz.f6 rfl rfl rfl rfl rfl rfl rfl ⟨rfl,rfl,rfl,rfl,rfl⟩ rfl rfl rfl rfl rfl (by kernel_rfl) Tryz.func6 (by kernel_rfl)
  (of_decide_eq_true (by kernel_rfl)) (by unfold Func.isWrapper;first|(rw [if_pos (by decide +kernel)];kernel_rfl)|(rw [if_neg (by decide +kernel)];exact ⟨rfl,rfl⟩))
  (fun os started H enc _=>untilLifted os started H enc)
theorem untilPlain (f : FuncId) (fn : Func) (hf : Tryz.pinned.checked.prog.funcNamed "loop.example/g00196/laws.FnExactUntil" = some f) (hfn : Tryz.pinned.checked.prog.funcs[f]? = some fn) :
  true=Tryz.pinned.checked.prog.looks []/\∀ (j:Nat) t,fn.params[j]? = some t->Tryz.pinned.checked.prog.wantsStandIn t=false:=by
 obtain rfl : f = 6 := Option.some.inj ((show Tryz.prog.funcNamed "loop.example/g00196/laws.FnExactUntil" = some 6 by kernel_rfl).symm.trans hf) |>.symm
 obtain rfl:fn=Tryz.f6:=(Option.some.inj (Tryz.func6.symm.trans hfn)).symm
 refine ⟨by kernel_rfl,fun j t ht=>?_⟩
 rw [Tryz.params6] at ht
 have hm:=Array.mem_of_getElem? ht
 simp at hm
 rcases hm with rfl | rfl | rfl
 ·exact (show Tryz.prog.wantsStandIn 43=false by kernel_rfl)
 ·exact (show Tryz.prog.wantsStandIn 53=false by kernel_rfl)
 ·exact (show Tryz.prog.wantsStandIn 45=false by kernel_rfl)
theorem until_card:Rows.FnExactUntilCardSaid:=
 Claim7.holds_tied_plain_at .later [] _ _ _ _ untilSaid (fun _ h=>by cases h) (by kernel_rfl) (fun _ h=>by cases h) fnExactUntil_row_tie rfl ⟨rfl,rfl⟩ (by kernel_rfl) rfl untilPlain (by kernel_rfl)
