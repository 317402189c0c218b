import Derived.Test.YtkdablcbhhphoaaGreatDoorMt16
import Derived.Lib.AppendZerosOnto
import Derived.Lib.Walk
namespace Go.Proofs.YtkdablcbhhphoaaGreatDoor
open Go.Proofs.Tryz
set_option maxRecDepth 100000
set_option maxHeartbeats 4000000
open Go.ChangeShapes Go.WideShapes Go.ChangeAt Go.RowKit Go.Deep
variable {z:Bool}
def adOf:Value->Option Addr
 | .slice a _ _=>a
 | _=>none
def cpOf:Value->Nat
 | .slice _ _ c=>c
 | _=>0
def fdOf (v:Value) (i:Nat):Value:=(cellsL v).getD i nS
def Sy.sysIn (y:Sy) (vp vs vw vh:Value) (up us uw uh:Nat->Value):SysIn:=
 ⟨adOf vp, y.pn, cpOf vp, fun i => adOf (up i), y.pL, fun i => cpOf (up i), y.pH,
  adOf vs,y.sn,cpOf vs,fun i=>⟨(y.sS i).p,adOf (fdOf (us i) 1),cpOf (fdOf (us i) 1),(y.sS i).rs,adOf (fdOf (us i) 2),cpOf (fdOf (us i) 2),(y.sS i).os,(y.sS i).c⟩,
  adOf vw,y.wn,cpOf vw,fun i=>adOf (uw i),y.wL,fun i=>cpOf (uw i),y.wH,
  adOf vh,y.hn,cpOf vh,fun i=>adOf (uh i),y.hL,fun i=>cpOf (uh i),y.hH⟩
theorem qqs {e:TypeId} {sz:Nat} {E:TypeId} {w:World} {P:Nat->Prop} {v:Value} {n:Nat} {u:Nat->Value} {L:Nat->Nat} {c:Nat->List Value} (o:LL z e sz E w P v n u L c):RowS w (adOf v) n fun i=>.slice (adOf (u i)) (L i) (cpOf (u i)):=by
 rcases Nat.eq_zero_or_pos n with h | h
 ·exact .inl h
 ·obtain ⟨g,cap,rfl,-,hg,-,-⟩:=o.cell h
  refine .inr ⟨g,0,rfl,hg,fun i hi=>?_⟩;obtain ⟨g',cap',ew,-,-,hc,-⟩:=o.cell hi;simp only [Value.slice.injEq,nG,Addr.mk.injEq,and_true,true_and] at ew;obtain ⟨rfl,rfl⟩:=ew;obtain ⟨a,c',eu⟩:=zT (o.own i hi);show w.cell? ⟨g,0+i,none⟩=some (.slice (adOf (u i)) (L i) (cpOf (u i)));rw [nL,hc,eu];rfl
theorem sl_v {w:World} {B:Nat} {e:TypeId} {sz n:Nat} {v:Value} {xs:List Value} (o:w.ownsRow B e sz v n xs):v=.slice (adOf v) n (cpOf v):=by
 obtain ⟨a,c,rfl⟩:=zT o;rfl
theorem OwnS.v {w:World} {B:Nat} {c:Nat->Nat} {y:Sy} {vp vs vw vh:Value} {up us uw uh:Nat->Value} (o:OwnS z w B c y vp vs vw vh up us uw uh):(y.sysIn vp vs vw vh up us uw uh).v=.agg #[vp,vs,vw,vh]:=by
 have e1:=sl_v o.p.row;have e2:=sl_v o.s.row;have e3:=sl_v o.t.row;have e4:=sl_v o.h.row
 conv=>rhs;rw [e1,e2,e3,e4]
 rfl
theorem qxw {w:World} {B sz n:Nat} {e:TypeId} {u:Value} {xs:List Value} (o:w.ownsRow B e sz u n xs):n=0\/u≠.slice none 0 0:=by
 rcases o.2 with ⟨_,h⟩ | ⟨b,cap,cur,rfl,_⟩
 ·exact .inl h
 ·exact .inr (fun e=>by cases e)
theorem qyj {w:World} {B n:Nat} {u:Value} {g:Nat->I2} (o:w.ownsRow B 74 2 u n (fT g n)):ItL w (adOf u) n g:=by
 rcases qxw o with h | h
 ·exact .inl h
 ·obtain ⟨b,cap,eu,hb,hI,-⟩:=atT o h
  exact .inr ⟨b,0,by rw [eu];rfl,hb,hI⟩
theorem qyd {w:World} {B n:Nat} {u:Value} {g:Nat->E3} (o:w.ownsRow B 86 3 u n (fE g n)):EvL w (adOf u) n g:=by
 rcases qxw o with h | h
 ·exact .inl h
 ·obtain ⟨b,cap,eu,hb,hI,-⟩:=atE o h
  exact .inr ⟨b,0,by rw [eu];rfl,hb,hI⟩
theorem OwnS.g {w:World} {B:Nat} {c:Nat->Nat} {y:Sy} {vp vs vw vh:Value} {up us uw uh:Nat->Value} (o:OwnS z w B c y vp vs vw vh up us uw uh):SysG w (y.sysIn vp vs vw vh up us uw uh):=by
 refine ⟨qqs o.p,fun i hi=>?_,?_,qqs o.t,fun i hi=>?_,qqs o.h,fun i hi=>?_⟩
 ·obtain ⟨b,cap,eu,hb,hI,-⟩:=atI (o.p.own i hi) (o.p.nn nzI i hi)
  exact ⟨b,by show adOf (up i)=_;rw [eu];rfl,hb,hI⟩
 ·refine ⟨?_,fun i hi=>?_⟩
  ·rcases Nat.eq_zero_or_pos y.sn with h | h
   ·exact .inl h
   ·obtain ⟨g,cap,rfl,-,hg,-,-⟩:=o.s.cell h
    refine .inr ⟨g,0,rfl,hg,fun i hi=>?_⟩;obtain ⟨g',cap',ew,-,-,hc,-⟩:=o.s.cell hi;simp only [Value.slice.injEq,nG,Addr.mk.injEq,and_true,true_and] at ew;obtain ⟨rfl,rfl⟩:=ew;obtain ⟨ra,rc,oa,oc,eu,h0,h1,h2,h3⟩:=hc;show w.cell? ⟨g,0+i*4,none⟩=some (.int .i64 (y.sS i).p)/\w.cell? ⟨g,0+i*4+1,none⟩=some (.slice (adOf (fdOf (us i) 1)) (y.sS i).rs.length (cpOf (fdOf (us i) 1)))/\w.cell? ⟨g,0+i*4+2,none⟩=some (.slice (adOf (fdOf (us i) 2)) (y.sS i).os.length (cpOf (fdOf (us i) 2)))/\w.cell? ⟨g,0+i*4+3,none⟩=some (.int .i64 (y.sS i).c);rw [nL,eu];exact ⟨h0,h1,h2,h3⟩
  ·obtain ⟨g,cap,-,-,-,⟨ra,rc,oa,oc,eu,-⟩,-⟩:=o.s.cell hi
   have h4:=o.s.own i hi;rw [eu] at h4;show Sl w (adOf (fdOf (us i) 1)) (y.sS i).rs/\Sl w (adOf (fdOf (us i) 2)) (y.sS i).os;rw [eu];exact ⟨h4.parts.1.slOf,h4.parts.2.1.slOf⟩
 ·exact qyj (o.t.own i hi)
 ·exact qyd (o.h.own i hi)
variable {z:Bool}
theorem qcx {t e:TypeId} {bytes:Nat} (K:Kind t e 1 bytes) (n:Nat) (hn:n<=1048576):∃ cs:Array Value,cs.size=n/\∀ w:World,(Instr.makeSlice t (.int .i64 0) (.int .i64 (n:Int))).run prog w=.ok (sG w.heap.size 0 n) (w.alloc (.cells cs e)):=by
 obtain ⟨i,z,hi,hz,hs,hb,hzs⟩:=K.inf;refine ⟨madeCells z.cells n,size_madeCells _ _,fun w=>?_⟩
 have hby:i.bytes*n<=281474976710656:=by
  rw [hb];exact zO (Nat.mul_le_mul K.sml hn) (by omega)
 have hby':(i.bytes:Int)*(n:Int)<=281474976710656:=by rw [<- Int.natCast_mul];exact Int.ofNat_le.2 hby
 have h:=run_make (P:=prog) w t e i z K.und hi hz .i64 .i64 0 (n:Int) (by omega) (by omega) hby' (by omega);rw [hs,Nat.mul_one,nF] at h;exact h
theorem LL.made (e:TypeId) (sz:Nat) (E:TypeId) (w:World) (cs:Array Value) (n:Nat) (hn:n<=1048576) (hc:cs.size=n) (P:Nat->Prop) (hP:P w.heap.size) (u:Nat->Value) (L:Nat->Nat) (c:Nat->List Value):LL z e sz E (w.alloc (.cells cs E)) P (sG w.heap.size 0 n) 0 u L c:=
 ⟨World.ownsRow_made (base:=0) (e:=E) (size:=1) w cs n (nD _) (by unfold maxLen;omega) (by rw [hc,Nat.mul_one]),fun i hi=>(by omega),fun k hk=>(by cases hk;exact hP),fun i hi=>(by omega),fun i hi=>(by omega),fun i j hi=>(by omega),fun i hi=>(by omega)⟩
theorem qm2 (b off n cap:Nat) (H:Nat->I5) (w:World) (hn:n<=1048576) (hI:Src w (some ⟨b,off,none⟩) (fI H n)):
  Calls prog 194 #[.slice (some ⟨b,off,none⟩) n cap] w fun e w'=>∃ a c,e=.returned (.slice a n c)/\w'.ownsRow w.heap.size 184 5 (.slice a n c) n (fI H n)/\Value.slice a n c≠nS/\Below w.heap.size w w':=by
 have HI:Hid (Src w (some ⟨b,off,none⟩) (fI H n)):=hI;have he:∀ wx:World,(binOp .eql 144 (.slice (some ⟨b,off,none⟩) n cap) nS).run prog wx=.ok (.bool false) wx:=fun wx=>by kernel_rfl
 clear hI
 go_enter func194,ntmps194
 go_wp2_with (at_builtin;refine qbc kndI w rfl rfl _ _ rfl (some ⟨b,off,none⟩) n cap (fI H n) rfl rfl (qxt _ _) HI.out (qxu _ _) (by omega) ?_;intro v4 w4 o4 b4 n4;obtain ⟨a4,c4,rfl⟩:=zT o4;have F4:Hid (w4.ownsRow w.heap.size 184 5 (.slice a4 n c4) n (fI H n)/\Value.slice a4 n c4≠nS/\Below w.heap.size w w4):=⟨o4,n4,b4⟩;clear o4 b4 n4)
 go_ret;exact ⟨_,_,rfl,F4.out⟩
theorem qhl (a0:Option Addr) (n cap:Nat) (A:Nat->Option Addr) (L C:Nat->Nat) (H:Nat->Nat->I5) (w:World) (hn:n<=1048576) (hL:∀ i,i<n->L i<=1048576) (hr:RowS w a0 n fun i=>.slice (A i) (L i) (C i)) (hI:∀ i,i<n->∃ b off,A i=some ⟨b,off,none⟩/\Src w (A i) (fI (H i) (L i))):
  Calls prog 140 #[.slice a0 n cap] w fun e w'=>∃ v u,e=.returned v/\LI z w' (fun k=>w.heap.size<=k/\k<w'.heap.size) v n u L H/\Below w.heap.size w w':=by
 have hn':(n:Int)<=1048576:=by omega
 obtain ⟨cs,hcs,hmk⟩:=qcx qyl n hn;have HCS:Hid (cs.size=n):=hcs;have HR:Hid (RowS w a0 n fun i=>.slice (A i) (L i) (C i)):=hr;have HI:Hid (∀ i,i<n->∃ b off,A i=some ⟨b,off,none⟩/\Src w (A i) (fI (H i) (L i))):=hI;have HL:Hid (∀ i,i<n->L i<=1048576):=hL;clear hr hI hL hcs
 go_enter func140,ntmps140
 go_wp2_with fail
 clear hmk
 go_loopw [3,11] (fun v i wr=>∃ k:Nat,k<=n/\i=.int .i64 k/\Hid ((∃ u,LI z wr (fun b=>w.heap.size<=b/\b<wr.heap.size) v k u L H)/\Below w.heap.size w wr)) (fun _ i _=>n - (intOf i).toNat)
 case atStart=>exact ⟨0,nD _,rfl,⟨fun _=>.slice none 0 0,LL.made _ _ _ w _ n hn HCS.out _ (by simp) _ _ _⟩,zP _ _⟩
 case round=>
  obtain ⟨k,hk,rfl,HZ⟩:=hrel;by_cases hlt:k<n
  ·have hlt':(k:Int)<(n:Int):=by omega
   obtain ⟨b,off,rfl,ck⟩:=(HR.bw HZ.2).at hlt;have hbl:b<wr.heap.size:=zJ wr _ ck;obtain ⟨b2,o2,ea,hsr⟩:=HI.out k hlt;rw [ea] at hsr ck;have HS:Hid (Src wr (some ⟨b2,o2,none⟩) (fI (H k) (L k))):=hsr.bw HZ.2;have HLk:Hid (L k<=1048576):=HL.out k hlt;have hk2:Hid (k<=2000000):=by show k<=2000000;omega
   obtain ⟨⟨u,oz⟩,bz⟩:=HZ.out;have OZ:Hid (LI z wr (fun b=>w.heap.size<=b/\b<wr.heap.size) u3 k u L H):=oz;have BZ:Hid (Below w.heap.size w wr):=bz;clear oz bz HZ hsr ea;go_wp2_with fail
   refine (qm2 b2 o2 (L k) (C k) (H k) wr HLk.out HS.out).mono ?_;rintro e w4 ⟨a4,c4,rfl,o4,n4,b4⟩;have F4:Hid (w4.ownsRow wr.heap.size 184 5 (.slice a4 (L k) c4) (L k) (fI (H k) (L k))/\Below wr.heap.size wr w4/\Value.slice a4 (L k) c4≠nS):=⟨o4,b4,n4⟩
   clear o4 b4 n4 ck hbl;go_wp2_with (at_builtin;refine qau qyl w4 rfl rfl _ _ rfl 0 u3 k _ rfl (OZ.bw F4.2.1).row #[.slice a4 (L k) c4] rfl rfl (by intro u hu;simp at hu;subst hu;rfl) hk2.out (nD _) ?_;intro v5 w5 o5 g5 q5 n5;have F5:Hid (LI z w5 (fun b=>w.heap.size<=b/\b<w5.heap.size) v5 (k+1) (fun j=>if j=k then .slice a4 (L k) c4 else u j) L H/\Below w.heap.size w w5):=⟨OZ.push F4.2.1 F4.1 (fun _=>F4.2.2) o5 g5 q5 (fun j hj _=>⟨hj.1,zL hj.2 (zO F4.2.1.size g5.size)⟩) (fun j hj hj'=>⟨zO BZ.size hj,hj'⟩),Below.grown (BZ.trans (F4.2.1.mono BZ.size)) g5 (zO BZ.size F4.2.1.size) (fun j hj=>(OZ.rb j hj).1)⟩;clear o5 g5 q5 n5)
   go_roundw
   case rel=>exact ⟨k+1,by omega,by go_num,⟨_,F5.1⟩,F5.2⟩
   case measure=>simp [intOf];omega
  ·have hkn:k=n:=by omega
   subst hkn;go_wp2;go_ret;obtain ⟨⟨u,oz⟩,bz⟩:=HZ.out;exact ⟨_,u,rfl,oz,bz⟩
theorem qdo (b off n cap:Nat) (H:Nat->I2) (w:World) (hn:n<=1048576) (hI:Src w (some ⟨b,off,none⟩) (fT H n)):
  Calls prog 103 #[.slice (some ⟨b,off,none⟩) n cap] w fun e w'=>∃ a c,e=.returned (.slice a n c)/\w'.ownsRow w.heap.size 74 2 (.slice a n c) n (fT H n)/\Value.slice a n c≠nS/\Below w.heap.size w w':=by
 have HI:Hid (Src w (some ⟨b,off,none⟩) (fT H n)):=hI;have he:∀ wx:World,(binOp .eql 72 (.slice (some ⟨b,off,none⟩) n cap) nS).run prog wx=.ok (.bool false) wx:=fun wx=>by kernel_rfl
 clear hI
 go_enter func103,ntmps103
 go_wp2_with (at_builtin;refine qbc kndT w rfl rfl _ _ rfl (some ⟨b,off,none⟩) n cap (fT H n) rfl rfl (qrp _ _) HI.out (qrq _ _) (by omega) ?_;intro v4 w4 o4 b4 n4;obtain ⟨a4,c4,rfl⟩:=zT o4;have F4:Hid (w4.ownsRow w.heap.size 74 2 (.slice a4 n c4) n (fT H n)/\Value.slice a4 n c4≠nS/\Below w.heap.size w w4):=⟨o4,n4,b4⟩;clear o4 b4 n4)
 go_ret;exact ⟨_,_,rfl,F4.out⟩
theorem qi8 (w:World):
  Calls prog 103 #[nS] w (rB w nS):=by
 have he:∀ wx:World,(binOp .eql 72 nS nS).run prog wx=.ok (.bool true) wx:=fun wx=>by kernel_rfl
 go_enter func103,ntmps103
 go_wp2;go_ret;exact ⟨rfl,nE _ _⟩
theorem qgf (a0:Option Addr) (n cap:Nat) (A:Nat->Option Addr) (L C:Nat->Nat) (H:Nat->Nat->I2) (w:World) (hn:n<=1048576) (hL:∀ i,i<n->L i<=1048576) (hr:RowS w a0 n fun i=>.slice (A i) (L i) (C i)) (hI:∀ i,i<n->(∃ b off,A i=some ⟨b,off,none⟩/\Src w (A i) (fT (H i) (L i)))\/(z=false/\A i=none/\L i=0/\C i=0)):
  Calls prog 141 #[.slice a0 n cap] w fun e w'=>∃ v u,e=.returned v/\LT z w' (fun k=>w.heap.size<=k/\k<w'.heap.size) v n u L H/\Below w.heap.size w w':=by
 have hn':(n:Int)<=1048576:=by omega
 obtain ⟨cs,hcs,hmk⟩:=qcx qwu n hn;have HCS:Hid (cs.size=n):=hcs;have HR:Hid (RowS w a0 n fun i=>.slice (A i) (L i) (C i)):=hr;have HI:Hid (∀ i,i<n->(∃ b off,A i=some ⟨b,off,none⟩/\Src w (A i) (fT (H i) (L i)))\/(z=false/\A i=none/\L i=0/\C i=0)):=hI;have HL:Hid (∀ i,i<n->L i<=1048576):=hL;clear hr hI hL hcs
 go_enter func141,ntmps141
 go_wp2_with fail
 clear hmk
 go_loopw [3,11] (fun v i wr=>∃ k:Nat,k<=n/\i=.int .i64 k/\Hid ((∃ u,LT z wr (fun b=>w.heap.size<=b/\b<wr.heap.size) v k u L H)/\Below w.heap.size w wr)) (fun _ i _=>n - (intOf i).toNat)
 case atStart=>exact ⟨0,nD _,rfl,⟨fun _=>.slice none 0 0,LL.made _ _ _ w _ n hn HCS.out _ (by simp) _ _ _⟩,zP _ _⟩
 case round=>
  obtain ⟨k,hk,rfl,HZ⟩:=hrel;by_cases hlt:k<n
  ·have hlt':(k:Int)<(n:Int):=by omega
   obtain ⟨b,off,rfl,ck⟩:=(HR.bw HZ.2).at hlt;have hbl:b<wr.heap.size:=zJ wr _ ck
   rcases HI.out k hlt with ⟨b2,o2,ea,hsr⟩ | ⟨hz,ea,eL,eC⟩
   ·rw [ea] at hsr ck
    have HS:Hid (Src wr (some ⟨b2,o2,none⟩) (fT (H k) (L k))):=hsr.bw HZ.2;have HLk:Hid (L k<=1048576):=HL.out k hlt;have hk2:Hid (k<=2000000):=by show k<=2000000;omega
    obtain ⟨⟨u,oz⟩,bz⟩:=HZ.out;have OZ:Hid (LT z wr (fun b=>w.heap.size<=b/\b<wr.heap.size) u3 k u L H):=oz;have BZ:Hid (Below w.heap.size w wr):=bz;clear oz bz HZ hsr ea;go_wp2_with fail
    refine (qdo b2 o2 (L k) (C k) (H k) wr HLk.out HS.out).mono ?_;rintro e w4 ⟨a4,c4,rfl,o4,n4,b4⟩;have F4:Hid (w4.ownsRow wr.heap.size 74 2 (.slice a4 (L k) c4) (L k) (fT (H k) (L k))/\Below wr.heap.size wr w4/\Value.slice a4 (L k) c4≠nS):=⟨o4,b4,n4⟩
    clear o4 b4 n4 ck hbl;go_wp2_with (at_builtin;refine qau qwu w4 rfl rfl _ _ rfl 0 u3 k _ rfl (OZ.bw F4.2.1).row #[.slice a4 (L k) c4] rfl rfl (by intro u hu;simp at hu;subst hu;rfl) hk2.out (nD _) ?_;intro v5 w5 o5 g5 q5 n5;have F5:Hid (LT z w5 (fun b=>w.heap.size<=b/\b<w5.heap.size) v5 (k+1) (fun j=>if j=k then .slice a4 (L k) c4 else u j) L H/\Below w.heap.size w w5):=⟨OZ.push F4.2.1 F4.1 (fun _=>F4.2.2) o5 g5 q5 (fun j hj _=>⟨hj.1,zL hj.2 (zO F4.2.1.size g5.size)⟩) (fun j hj hj'=>⟨zO BZ.size hj,hj'⟩),Below.grown (BZ.trans (F4.2.1.mono BZ.size)) g5 (zO BZ.size F4.2.1.size) (fun j hj=>(OZ.rb j hj).1)⟩;clear o5 g5 q5 n5)
    go_roundw
    case rel=>exact ⟨k+1,by omega,by go_num,⟨_,F5.1⟩,F5.2⟩
    case measure=>simp [intOf];omega
   ·rw [ea,eL,eC] at ck
    have HNz:Hid (¬ Nz z 74):=fun h=>by
     rcases h with h | h
     ·rw [hz] at h
      cases h
     ·exact absurd h (by decide)
    have hk2:Hid (k<=2000000):=by show k<=2000000;omega
    obtain ⟨⟨u,oz⟩,bz⟩:=HZ.out;have OZ:Hid (LT z wr (fun b=>w.heap.size<=b/\b<wr.heap.size) u3 k u L H):=oz;have BZ:Hid (Below w.heap.size w wr):=bz;have HE:Hid (L k=0):=eL;clear oz bz HZ ea eL eC hz;go_wp2_with fail
    refine (qi8 wr).mono ?_;rintro e w4 ⟨rfl,b4⟩;have F4:Hid (w4.ownsRow wr.heap.size 74 2 nS (L k) (fT (H k) (L k))/\Below wr.heap.size wr w4):=⟨by rw [HE.out];exact World.ownsRow_nil _ _ _ _,b4⟩
    clear b4 ck hbl;go_wp2_with (at_builtin;refine qau qwu w4 rfl rfl _ _ rfl 0 u3 k _ rfl (OZ.bw F4.2).row #[nS] rfl rfl (by intro u hu;simp at hu;subst hu;rfl) hk2.out (nD _) ?_;intro v5 w5 o5 g5 q5 n5;have F5:Hid (LT z w5 (fun b=>w.heap.size<=b/\b<w5.heap.size) v5 (k+1) (fun j=>if j=k then nS else u j) L H/\Below w.heap.size w w5):=⟨OZ.push F4.2 F4.1 (fun h=>absurd h HNz.out) o5 g5 q5 (fun j hj _=>⟨hj.1,zL hj.2 (zO F4.2.size g5.size)⟩) (fun j hj hj'=>⟨zO BZ.size hj,hj'⟩),Below.grown (BZ.trans (F4.2.mono BZ.size)) g5 (zO BZ.size F4.2.size) (fun j hj=>(OZ.rb j hj).1)⟩;clear o5 g5 q5 n5)
    go_roundw
    case rel=>exact ⟨k+1,by omega,by go_num,⟨_,F5.1⟩,F5.2⟩
    case measure=>simp [intOf];omega
  ·have hkn:k=n:=by omega
   subst hkn;go_wp2;go_ret;obtain ⟨⟨u,oz⟩,bz⟩:=HZ.out;exact ⟨_,u,rfl,oz,bz⟩
theorem qi7 (b off n cap:Nat) (H:Nat->E3) (w:World) (hn:n<=1048576) (hI:Src w (some ⟨b,off,none⟩) (fE H n)):
  Calls prog 195 #[.slice (some ⟨b,off,none⟩) n cap] w fun e w'=>∃ a c,e=.returned (.slice a n c)/\w'.ownsRow w.heap.size 86 3 (.slice a n c) n (fE H n)/\Value.slice a n c≠nS/\Below w.heap.size w w':=by
 have HI:Hid (Src w (some ⟨b,off,none⟩) (fE H n)):=hI;have he:∀ wx:World,(binOp .eql 87 (.slice (some ⟨b,off,none⟩) n cap) nS).run prog wx=.ok (.bool false) wx:=fun wx=>by kernel_rfl
 clear hI
 go_enter func195,ntmps195
 go_wp2_with (at_builtin;refine qbc kndE w rfl rfl _ _ rfl (some ⟨b,off,none⟩) n cap (fE H n) rfl rfl (qxr _ _) HI.out (qxs _ _) (by omega) ?_;intro v4 w4 o4 b4 n4;obtain ⟨a4,c4,rfl⟩:=zT o4;have F4:Hid (w4.ownsRow w.heap.size 86 3 (.slice a4 n c4) n (fE H n)/\Value.slice a4 n c4≠nS/\Below w.heap.size w w4):=⟨o4,n4,b4⟩;clear o4 b4 n4)
 go_ret;exact ⟨_,_,rfl,F4.out⟩
theorem qii (w:World):
  Calls prog 195 #[nS] w (rB w nS):=by
 have he:∀ wx:World,(binOp .eql 87 nS nS).run prog wx=.ok (.bool true) wx:=fun wx=>by kernel_rfl
 go_enter func195,ntmps195
 go_wp2;go_ret;exact ⟨rfl,nE _ _⟩
theorem qfl (a0:Option Addr) (n cap:Nat) (A:Nat->Option Addr) (L C:Nat->Nat) (H:Nat->Nat->E3) (w:World) (hn:n<=1048576) (hL:∀ i,i<n->L i<=1048576) (hr:RowS w a0 n fun i=>.slice (A i) (L i) (C i)) (hI:∀ i,i<n->(∃ b off,A i=some ⟨b,off,none⟩/\Src w (A i) (fE (H i) (L i)))\/(z=false/\A i=none/\L i=0/\C i=0)):
  Calls prog 142 #[.slice a0 n cap] w fun e w'=>∃ v u,e=.returned v/\LE z w' (fun k=>w.heap.size<=k/\k<w'.heap.size) v n u L H/\Below w.heap.size w w':=by
 have hn':(n:Int)<=1048576:=by omega
 obtain ⟨cs,hcs,hmk⟩:=qcx qwt n hn;have HCS:Hid (cs.size=n):=hcs;have HR:Hid (RowS w a0 n fun i=>.slice (A i) (L i) (C i)):=hr;have HI:Hid (∀ i,i<n->(∃ b off,A i=some ⟨b,off,none⟩/\Src w (A i) (fE (H i) (L i)))\/(z=false/\A i=none/\L i=0/\C i=0)):=hI;have HL:Hid (∀ i,i<n->L i<=1048576):=hL;clear hr hI hL hcs
 go_enter func142,ntmps142
 go_wp2_with fail
 clear hmk
 go_loopw [3,11] (fun v i wr=>∃ k:Nat,k<=n/\i=.int .i64 k/\Hid ((∃ u,LE z wr (fun b=>w.heap.size<=b/\b<wr.heap.size) v k u L H)/\Below w.heap.size w wr)) (fun _ i _=>n - (intOf i).toNat)
 case atStart=>exact ⟨0,nD _,rfl,⟨fun _=>.slice none 0 0,LL.made _ _ _ w _ n hn HCS.out _ (by simp) _ _ _⟩,zP _ _⟩
 case round=>
  obtain ⟨k,hk,rfl,HZ⟩:=hrel;by_cases hlt:k<n
  ·have hlt':(k:Int)<(n:Int):=by omega
   obtain ⟨b,off,rfl,ck⟩:=(HR.bw HZ.2).at hlt;have hbl:b<wr.heap.size:=zJ wr _ ck
   rcases HI.out k hlt with ⟨b2,o2,ea,hsr⟩ | ⟨hz,ea,eL,eC⟩
   ·rw [ea] at hsr ck
    have HS:Hid (Src wr (some ⟨b2,o2,none⟩) (fE (H k) (L k))):=hsr.bw HZ.2;have HLk:Hid (L k<=1048576):=HL.out k hlt;have hk2:Hid (k<=2000000):=by show k<=2000000;omega
    obtain ⟨⟨u,oz⟩,bz⟩:=HZ.out;have OZ:Hid (LE z wr (fun b=>w.heap.size<=b/\b<wr.heap.size) u3 k u L H):=oz;have BZ:Hid (Below w.heap.size w wr):=bz;clear oz bz HZ hsr ea;go_wp2_with fail
    refine (qi7 b2 o2 (L k) (C k) (H k) wr HLk.out HS.out).mono ?_;rintro e w4 ⟨a4,c4,rfl,o4,n4,b4⟩;have F4:Hid (w4.ownsRow wr.heap.size 86 3 (.slice a4 (L k) c4) (L k) (fE (H k) (L k))/\Below wr.heap.size wr w4/\Value.slice a4 (L k) c4≠nS):=⟨o4,b4,n4⟩
    clear o4 b4 n4 ck hbl;go_wp2_with (at_builtin;refine qau qwt w4 rfl rfl _ _ rfl 0 u3 k _ rfl (OZ.bw F4.2.1).row #[.slice a4 (L k) c4] rfl rfl (by intro u hu;simp at hu;subst hu;rfl) hk2.out (nD _) ?_;intro v5 w5 o5 g5 q5 n5;have F5:Hid (LE z w5 (fun b=>w.heap.size<=b/\b<w5.heap.size) v5 (k+1) (fun j=>if j=k then .slice a4 (L k) c4 else u j) L H/\Below w.heap.size w w5):=⟨OZ.push F4.2.1 F4.1 (fun _=>F4.2.2) o5 g5 q5 (fun j hj _=>⟨hj.1,zL hj.2 (zO F4.2.1.size g5.size)⟩) (fun j hj hj'=>⟨zO BZ.size hj,hj'⟩),Below.grown (BZ.trans (F4.2.1.mono BZ.size)) g5 (zO BZ.size F4.2.1.size) (fun j hj=>(OZ.rb j hj).1)⟩;clear o5 g5 q5 n5)
    go_roundw
    case rel=>exact ⟨k+1,by omega,by go_num,⟨_,F5.1⟩,F5.2⟩
    case measure=>simp [intOf];omega
   ·rw [ea,eL,eC] at ck
    have HNz:Hid (¬ Nz z 86):=fun h=>by
     rcases h with h | h
     ·rw [hz] at h
      cases h
     ·exact absurd h (by decide)
    have hk2:Hid (k<=2000000):=by show k<=2000000;omega
    obtain ⟨⟨u,oz⟩,bz⟩:=HZ.out;have OZ:Hid (LE z wr (fun b=>w.heap.size<=b/\b<wr.heap.size) u3 k u L H):=oz;have BZ:Hid (Below w.heap.size w wr):=bz;have HE:Hid (L k=0):=eL;clear oz bz HZ ea eL eC hz;go_wp2_with fail
    refine (qii wr).mono ?_;rintro e w4 ⟨rfl,b4⟩;have F4:Hid (w4.ownsRow wr.heap.size 86 3 nS (L k) (fE (H k) (L k))/\Below wr.heap.size wr w4):=⟨by rw [HE.out];exact World.ownsRow_nil _ _ _ _,b4⟩
    clear b4 ck hbl;go_wp2_with (at_builtin;refine qau qwt w4 rfl rfl _ _ rfl 0 u3 k _ rfl (OZ.bw F4.2).row #[nS] rfl rfl (by intro u hu;simp at hu;subst hu;rfl) hk2.out (nD _) ?_;intro v5 w5 o5 g5 q5 n5;have F5:Hid (LE z w5 (fun b=>w.heap.size<=b/\b<w5.heap.size) v5 (k+1) (fun j=>if j=k then nS else u j) L H/\Below w.heap.size w w5):=⟨OZ.push F4.2 F4.1 (fun h=>absurd h HNz.out) o5 g5 q5 (fun j hj _=>⟨hj.1,zL hj.2 (zO F4.2.size g5.size)⟩) (fun j hj hj'=>⟨zO BZ.size hj,hj'⟩),Below.grown (BZ.trans (F4.2.mono BZ.size)) g5 (zO BZ.size F4.2.size) (fun j hj=>(OZ.rb j hj).1)⟩;clear o5 g5 q5 n5)
    go_roundw
    case rel=>exact ⟨k+1,by omega,by go_num,⟨_,F5.1⟩,F5.2⟩
    case measure=>simp [intOf];omega
  ·have hkn:k=n:=by omega
   subst hkn;go_wp2;go_ret;obtain ⟨⟨u,oz⟩,bz⟩:=HZ.out;exact ⟨_,u,rfl,oz,bz⟩
variable {z:Bool}
structure SysIn.Nn (x:SysIn) (z:Bool):Prop where
 w:∀ i,i<x.wn->(∃ b off,x.wA i=some ⟨b,off,none⟩)\/(z=false/\x.wA i=none/\x.wL i=0/\x.wC i=0)
 h:∀ i,i<x.hn->(∃ b off,x.hA i=some ⟨b,off,none⟩)\/(z=false/\x.hA i=none/\x.hL i=0/\x.hC i=0)
theorem qi0 (n:Nat) (hn:n<=1048576):∃ cs:Array Value,cs.size=n*4/\∀ w:World,(Instr.makeSlice 37 (.int .i64 0) (.int .i64 (n:Int))).run prog w=.ok (sG w.heap.size 0 n) (w.alloc (.cells cs 142)):=by
 obtain ⟨i,z,hi,hz,hs,hb,hzs⟩:=kndS.inf;refine ⟨madeCells z.cells (n*4),size_madeCells _ _,fun w=>?_⟩
 have hby:i.bytes*n<=281474976710656:=by
  rw [hb];omega
 have hby':(i.bytes:Int)*(n:Int)<=281474976710656:=by rw [<- Int.natCast_mul];exact Int.ofNat_le.2 hby
 have h:=run_make (P:=prog) w 37 142 i z kndS.und hi hz .i64 .i64 0 (n:Int) (by omega) (by omega) hby' (by omega);rw [hs,nF] at h;exact h
theorem LS.made (w:World) (cs:Array Value) (n:Nat) (hn:n<=1048576) (hc:cs.size=n*4) (P:Nat->Prop) (hP:P w.heap.size) (vs:Nat->Value) (S:Nat->S4) {N:Nat} (hN:N=w.heap.size):LS (w.alloc (.cells cs 142)) P (sG N 0 n) 0 vs S:=by
 subst hN;exact ⟨World.ownsRow_made (base:=0) (e:=142) (size:=4) w cs n (nD _) (by unfold maxLen;omega) hc,fun i hi=>(by omega),fun k hk=>(by cases hk;exact hP),fun i hi=>(by omega),fun i hi=>(by omega),fun i j hi=>(by omega)⟩
theorem OwnS.four {B m1 m2 m3 m4:Nat} {w1 w2 w3 w4 wf:World} {y:Sy} {vp vs vw vh:Value} {up us uw uh:Nat->Value} (h1:m1<=w1.heap.size) (h2:w1.heap.size<=m2) (h3:w2.heap.size<=m3) (h4:w3.heap.size<=m4) (hB:B<=m1)
  (o1:LS w1 (fun k=>m1<=k/\k<w1.heap.size) vs y.sn us y.sS) (o2:LI z w2 (fun k=>m2<=k/\k<w2.heap.size) vp y.pn up y.pL y.pH) (o3:LT z w3 (fun k=>m3<=k/\k<w3.heap.size) vw y.wn uw y.wL y.wH) (o4:LE z w4 (fun k=>m4<=k/\k<w4.heap.size) vh y.hn uh y.hL y.hH)
  (b2:Below w1.heap.size w1 w2) (b3:Below w2.heap.size w2 w3) (b4:Below w3.heap.size w3 w4) (hf:∀ k,m1<=k->k<w4.heap.size->wf.heap[k]? = w4.heap[k]?):
  ∃ c,OwnS z wf B c y vp vs vw vh up us uw uh:=by
 have z2:=b2.size;have z3:=b3.size;have z4:=b4.size;refine ⟨fun k=>if k<w1.heap.size then 2 else if k<w2.heap.size then 1 else if k<w3.heap.size then 3 else 4,?_,?_,?_,?_⟩
 ·refine (o2.keep (w':=wf) fun k hk hl=>(hf k (by omega) (by omega)).trans ((b4.block k (by omega)).trans (b3.block k hl))).mono fun k hk _=>⟨by omega,?_⟩
  show (if k<w1.heap.size then 2 else if k<w2.heap.size then 1 else if k<w3.heap.size then 3 else 4)=1;rw [nB (by omega),nC (by omega)]
 ·refine (o1.keep (w':=wf) fun k hk hl=>(hf k (by omega) (by omega)).trans ((b4.block k (by omega)).trans ((b3.block k (by omega)).trans (b2.block k hl)))).mono fun k hk _=>⟨by omega,?_⟩
  show (if k<w1.heap.size then 2 else if k<w2.heap.size then 1 else if k<w3.heap.size then 3 else 4)=2;rw [nC (by omega)]
 ·refine (o3.keep (w':=wf) fun k hk hl=>(hf k (by omega) (by omega)).trans (b4.block k hl)).mono fun k hk _=>⟨by omega,?_⟩
  show (if k<w1.heap.size then 2 else if k<w2.heap.size then 1 else if k<w3.heap.size then 3 else 4)=3;rw [nB (by omega),nB (by omega),nC (by omega)]
 ·refine (o4.keep (w':=wf) fun k hk hl=>hf k (by omega) hl).mono fun k hk _=>⟨by omega,?_⟩
  show (if k<w1.heap.size then 2 else if k<w2.heap.size then 1 else if k<w3.heap.size then 3 else 4)=4;rw [nB (by omega),nB (by omega),nB (by omega)]
theorem qpp (x:SysIn) (w:World) (hG:SysG w x) (hL:x.Len) (hN:x.Nn z):
  Calls prog 73 #[x.v] w fun e w'=>∃ v,e=.returned v/\qbj z w' w.heap.size x.y v/\Below w.heap.size w w':=by
 have HG:Hid (SysG w x):=hG;have HL:Hid x.Len:=hL;have hsn':(x.sn:Int)<=1048576:=by have:=hL.s.1;omega
 obtain ⟨cs,hcs,hmk⟩:=qi0 x.sn hL.s.1;have HCS:Hid (cs.size=x.sn*4):=hcs;have BW:Hid (Below w.heap.size w ((w.alloc (oQ4 x.pa x.pn x.pc x.sa x.sn x.sc x.wa x.wn x.wc x.ha x.hn x.hc)).alloc (zQ2))):=(zP _ _).trans ((zP _ _).mono (by simp));have NB:Hid (BoxC ((w.alloc (oQ4 x.pa x.pn x.pc x.sa x.sn x.sc x.wa x.wn x.wc x.ha x.hn x.hc)).alloc (zQ2)) w.heap.size (.slice x.pa x.pn x.pc) (.slice x.sa x.sn x.sc) (.slice x.wa x.wn x.wc) (.slice x.ha x.hn x.hc)):=(BoxC.new w _ _ _ _ _).bw (zP _ _);have RB:Hid (BoxC ((w.alloc (oQ4 x.pa x.pn x.pc x.sa x.sn x.sc x.wa x.wn x.wc x.ha x.hn x.hc)).alloc (zQ2)) (w.heap.size+1) nS nS nS nS/\∀ j,((w.alloc (oQ4 x.pa x.pn x.pc x.sa x.sn x.sc x.wa x.wn x.wc x.ha x.hn x.hc)).alloc (zQ2)).frozen? ⟨w.heap.size+1,j,none⟩=false):=⟨⟨zV _ _ _ 0 (by simp),zV _ _ _ 1 (by simp),zV _ _ _ 2 (by simp),zV _ _ _ 3 (by simp)⟩,fun j=>yA _ _ _ _ (by simp)⟩
 have hz:((w.alloc (oQ4 x.pa x.pn x.pc x.sa x.sn x.sc x.wa x.wn x.wc x.ha x.hn x.hc)).alloc (zQ2)).heap.size=w.heap.size+2:=by simp
 have hl0:w.heap.size<((w.alloc (oQ4 x.pa x.pn x.pc x.sa x.sn x.sc x.wa x.wn x.wc x.ha x.hn x.hc)).alloc (zQ2)).heap.size:=by omega
 have hl1:w.heap.size+1<((w.alloc (oQ4 x.pa x.pn x.pc x.sa x.sn x.sc x.wa x.wn x.wc x.ha x.hn x.hc)).alloc (zQ2)).heap.size:=by omega
 have Hp : Hid (∀ wx, Below ((w.alloc (oQ4 x.pa x.pn x.pc x.sa x.sn x.sc x.wa x.wn x.wc x.ha x.hn x.hc)).alloc (zQ2)).heap.size ((w.alloc (oQ4 x.pa x.pn x.pc x.sa x.sn x.sc x.wa x.wn x.wc x.ha x.hn x.hc)).alloc (zQ2)) wx → (RowS wx x.pa x.pn fun i => .slice (x.pA i) (x.pL i) (x.pC i)) ∧ ∀ i, i < x.pn → ∃ b off, x.pA i = some ⟨b, off, none⟩ ∧ Src wx (x.pA i) (fI (x.pH i) (x.pL i))) := fun wx hb => ⟨(HG.bw (BW.trans (hb.mono BW.size))).p, fun i hi => by
  obtain ⟨b,e,hlt,hI⟩:=(HG.bw (BW.trans (hb.mono BW.size))).pi i hi
  exact ⟨b,0,e,by rw [e];exact srcI hlt hI⟩⟩
 have Hw : Hid (∀ wx, Below ((w.alloc (oQ4 x.pa x.pn x.pc x.sa x.sn x.sc x.wa x.wn x.wc x.ha x.hn x.hc)).alloc (zQ2)).heap.size ((w.alloc (oQ4 x.pa x.pn x.pc x.sa x.sn x.sc x.wa x.wn x.wc x.ha x.hn x.hc)).alloc (zQ2)) wx → (RowS wx x.wa x.wn fun i => .slice (x.wA i) (x.wL i) (x.wC i)) ∧ ∀ i, i < x.wn → (∃ b off, x.wA i = some ⟨b, off, none⟩ ∧ Src wx (x.wA i) (fT (x.wH i) (x.wL i))) ∨ (z = false ∧ x.wA i = none ∧ x.wL i = 0 ∧ x.wC i = 0)) := fun wx hb => ⟨(HG.bw (BW.trans (hb.mono BW.size))).w, fun i hi => by
  rcases hN.w i hi with ⟨b,off,e⟩ | h
  ·exact .inl ⟨b,off,e,srcT ((HG.bw (BW.trans (hb.mono BW.size))).wi i hi)⟩
  ·exact .inr h⟩
 have Hh : Hid (∀ wx, Below ((w.alloc (oQ4 x.pa x.pn x.pc x.sa x.sn x.sc x.wa x.wn x.wc x.ha x.hn x.hc)).alloc (zQ2)).heap.size ((w.alloc (oQ4 x.pa x.pn x.pc x.sa x.sn x.sc x.wa x.wn x.wc x.ha x.hn x.hc)).alloc (zQ2)) wx → (RowS wx x.ha x.hn fun i => .slice (x.hA i) (x.hL i) (x.hC i)) ∧ ∀ i, i < x.hn → (∃ b off, x.hA i = some ⟨b, off, none⟩ ∧ Src wx (x.hA i) (fE (x.hH i) (x.hL i))) ∨ (z = false ∧ x.hA i = none ∧ x.hL i = 0 ∧ x.hC i = 0)) := fun wx hb => ⟨(HG.bw (BW.trans (hb.mono BW.size))).h, fun i hi => by
  rcases hN.h i hi with ⟨b,off,e⟩ | h
  ·exact .inl ⟨b,off,e,srcE ((HG.bw (BW.trans (hb.mono BW.size))).hi i hi)⟩
  ·exact .inr h⟩
 have HZ2:Hid (((w.alloc (oQ4 x.pa x.pn x.pc x.sa x.sn x.sc x.wa x.wn x.wc x.ha x.hn x.hc)).alloc (zQ2)).heap.size=w.heap.size+1+1):=hz;clear hG hL hcs hz
 go_enter func73,ntmps73
 go_wp2_with fail
 clear hmk;generalize hW2:(w.alloc (oQ4 x.pa x.pn x.pc x.sa x.sn x.sc x.wa x.wn x.wc x.ha x.hn x.hc)).alloc (zQ2)=W2 at *;clear hW2
 go_loopw [3,13] (fun v i wr=>∃ k:Nat,k<=x.sn/\i=.int .i64 k/\Hid ((∃ us,LS wr (fun b=>W2.heap.size<=b/\b<wr.heap.size) v k us x.sS)/\Below W2.heap.size W2 wr)) (fun _ i _=>x.sn - (intOf i).toNat)
 case atStart=>exact ⟨0,nD _,rfl,⟨fun _=>.slice none 0 0,LS.made W2 cs x.sn HL.s.1 HCS.out (fun b=>W2.heap.size<=b/\b<(W2.alloc (.cells cs 142)).heap.size) ⟨nA _,by simp⟩ _ _ HZ2.symm⟩,zP _ _⟩
 case round=>
  obtain ⟨k,hk,rfl,HZ⟩:=hrel;by_cases hlt:k<x.sn
  ·have hlt':(k:Int)<(x.sn:Int):=by omega
   obtain ⟨⟨us,oz⟩,bz⟩:=HZ.out;obtain ⟨bs,os,es,s0,s1,s2,s3⟩:=(HG.bw (BW.trans (bz.mono BW.size))).s.at hlt;have hls:=(HG.bw (BW.trans (bz.mono BW.size))).s.lst k hlt;have hbs:bs<wr.heap.size:=zJ wr _ s0;have HLk:=HL.s.2 k hlt;rw [es];have OZ:Hid (LS wr (fun b=>W2.heap.size<=b/\b<wr.heap.size) u3 k us x.sS):=oz;have BZ:Hid (Below W2.heap.size W2 wr):=bz;have LSt:Hid (Sl wr (x.sQ k).ra (x.sQ k).rs/\Sl wr (x.sQ k).oa (x.sQ k).os):=hls;clear oz bz hls HZ es;go_wp2_with fail
   have ba:=zP wr (oQ1 (x.sQ k).p (x.sQ k).ra (x.sQ k).rs.length (x.sQ k).rc (x.sQ k).oa (x.sQ k).os.length (x.sQ k).oc (x.sQ k).c);refine (qfm _ _ _ _ _ _ (x.sQ k).rs (x.sQ k).os _ HLk.1 HLk.2 (LSt.1.bw ba) (LSt.2.bw ba)).mono ?_;rintro e w1 ⟨v1,rfl,o1,d1⟩;obtain ⟨ra1,rc1,oa1,oc1,rfl,-,-⟩:=o1.read;have q1:Below wr.heap.size wr w1:=ba.trans (d1.mono ba.size);have F1:Hid (qag w1 wr.heap.size (stV (x.sQ k).p ra1 (x.sQ k).rs.length rc1 oa1 (x.sQ k).os.length oc1 (x.sQ k).c) (x.sQ k).p (x.sQ k).rs (x.sQ k).os (x.sQ k).c/\Below wr.heap.size wr w1):=⟨o1.mono (by simp),q1⟩
   clear o1 d1 q1 ba s0 s1 s2 s3;go_wp2_with (at_builtin;refine qau kndS w1 rfl rfl _ _ rfl 0 u3 k _ rfl (OZ.bw F1.2).row #[.int .i64 (x.sQ k).p,.slice ra1 (x.sQ k).rs.length rc1,.slice oa1 (x.sQ k).os.length oc1,.int .i64 (x.sQ k).c] rfl rfl (by intro u hu;simp at hu;rcases hu with rfl | rfl | rfl | rfl <;> rfl) (by omega) (nD _) ?_;intro v5 w5 o5 g5 q5 n5;have F5:Hid ((∃ us,LS w5 (fun b=>W2.heap.size<=b/\b<w5.heap.size) v5 (k+1) us x.sS)/\Below W2.heap.size W2 w5):=⟨⟨_,OZ.push F1.2 F1.1 o5 g5 q5 (fun j hj _=>⟨hj.1,zL hj.2 (zO F1.2.size g5.size)⟩) (fun j hj hj'=>⟨zO BZ.size hj,hj'⟩)⟩,Below.grown (BZ.trans (F1.2.mono BZ.size)) g5 (zO BZ.size F1.2.size) (fun j hj=>(OZ.rb j hj).1)⟩;clear o5 g5 q5 n5)
   go_roundw
   case rel=>exact ⟨k+1,by omega,by go_num,F5.1,F5.2⟩
   case measure=>simp [intOf];omega
  ·have hkn:k=x.sn:=by omega
   subst hkn;obtain ⟨⟨us,oz⟩,q0⟩:=HZ.out;obtain ⟨sa,sc,rfl⟩:=zT oz.row;have b0:=NB.bw q0;clear HZ;go_wp2_with fail
   refine qa1 (fun w'=>w'.cell? ⟨w.heap.size,0,none⟩=some (.slice x.pa x.pn x.pc)/\w'.cell? ⟨w.heap.size,2,none⟩=some (.slice x.wa x.wn x.wc)/\w'.cell? ⟨w.heap.size,3,none⟩=some (.slice x.ha x.hn x.hc)) (fun i=>i == 11) (by kernel_rfl) ?_;have hHeld:(fun w'=>w'.cell? ⟨w.heap.size,0,none⟩=some (.slice x.pa x.pn x.pc)/\w'.cell? ⟨w.heap.size,2,none⟩=some (.slice x.wa x.wn x.wc)/\w'.cell? ⟨w.heap.size,3,none⟩=some (.slice x.ha x.hn x.hc)) wr.drew:=⟨b0.1,b0.2.2.1,b0.2.2.2⟩
   have q0:Below W2.heap.size W2 wr.drew:=q0.drew;refine qcn [0,1,3,4,5,7,8] ?_;iterate 7 (refine qdl rfl hHeld ?_)
   refine qb0 ?_;refine yW 2 rfl fun K hK=>?_;refine qas rfl 140 _ _ rfl #[.slice x.pa x.pn x.pc] (by simp [Act.eval]) (zZ func140) (qhl (z:=z) x.pa x.pn x.pc x.pA x.pL x.pC x.pH wr.drew HL.p.1 HL.p.2 (Hp.out _ q0).1 (Hp.out _ q0).2) ?_;rintro e w1 ⟨v1,u1,rfl,o1,d1⟩;obtain ⟨a1,c1,rfl⟩:=zT o1.row;refine ⟨_,rfl,?_⟩;have q1:Below W2.heap.size W2 w1:=q0.trans (d1.mono q0.size);have b1:=NB.bw q1;refine hK.out _ _ (fun _=>⟨b1.1,b1.2.2.1,b1.2.2.2⟩) ?_;clear hHeld;have hHeld:(fun w'=>w'.cell? ⟨w.heap.size,0,none⟩=some (.slice x.pa x.pn x.pc)/\w'.cell? ⟨w.heap.size,2,none⟩=some (.slice x.wa x.wn x.wc)/\w'.cell? ⟨w.heap.size,3,none⟩=some (.slice x.ha x.hn x.hc)) w1:=⟨b1.1,b1.2.2.1,b1.2.2.2⟩
   clear hK K
   (try simp only [Act.put,zD,zE,zF])
   refine yW 6 rfl fun K hK=>?_;refine qas rfl 141 _ _ rfl #[.slice x.wa x.wn x.wc] (by simp [Act.eval]) (zZ func141) (qgf (z:=z) x.wa x.wn x.wc x.wA x.wL x.wC x.wH w1 HL.w.1 HL.w.2 (Hw.out _ q1).1 (Hw.out _ q1).2) ?_;rintro e w2 ⟨v2,u2,rfl,o2,d2⟩;obtain ⟨a2,c2,rfl⟩:=zT o2.row;refine ⟨_,rfl,?_⟩;have q2:Below W2.heap.size W2 w2:=q1.trans (d2.mono q1.size);have b2:=NB.bw q2;refine hK.out _ _ (fun _=>⟨b2.1,b2.2.2.1,b2.2.2.2⟩) ?_;clear hHeld;have hHeld:(fun w'=>w'.cell? ⟨w.heap.size,0,none⟩=some (.slice x.pa x.pn x.pc)/\w'.cell? ⟨w.heap.size,2,none⟩=some (.slice x.wa x.wn x.wc)/\w'.cell? ⟨w.heap.size,3,none⟩=some (.slice x.ha x.hn x.hc)) w2:=⟨b2.1,b2.2.2.1,b2.2.2.2⟩
   clear hK K
   (try simp only [Act.put,zD,zE,zF])
   refine yW 9 rfl fun K hK=>?_;refine qas rfl 142 _ _ rfl #[.slice x.ha x.hn x.hc] (by simp [Act.eval]) (zZ func142) (qfl (z:=z) x.ha x.hn x.hc x.hA x.hL x.hC x.hH w2 HL.h.1 HL.h.2 (Hh.out _ q2).1 (Hh.out _ q2).2) ?_;rintro e w3 ⟨v3,u3,rfl,o3,d3⟩;obtain ⟨a3,c3,rfl⟩:=zT o3.row;refine ⟨_,rfl,?_⟩;have q3:Below W2.heap.size W2 w3:=q2.trans (d3.mono q2.size);have b3:=NB.bw q3;refine hK.out _ _ (fun _=>⟨b3.1,b3.2.2.1,b3.2.2.2⟩) ?_;clear hHeld;have hHeld:(fun w'=>w'.cell? ⟨w.heap.size,0,none⟩=some (.slice x.pa x.pn x.pc)/\w'.cell? ⟨w.heap.size,2,none⟩=some (.slice x.wa x.wn x.wc)/\w'.cell? ⟨w.heap.size,3,none⟩=some (.slice x.ha x.hn x.hc)) w3:=⟨b3.1,b3.2.2.1,b3.2.2.2⟩
   clear hK K;refine qgu 10 rfl hHeld ?_;obtain ⟨r0,r1,r2,r3⟩:=RB.1.bw q3;have rf:∀ j,w3.frozen? ⟨w.heap.size+1,j,none⟩=false:=fun j=>((qap q3).2 _ j hl1).trans (RB.2 j);refine yW 11 rfl fun K hK=>?_;go_simp;refine hK.out _ _ (fun h=>?_) ?_
   ·exact absurd h (by decide)
   clear hK K
   (try simp only [Act.put])
   refine yX ?_ _;go_wp2;refine bodyPost_ret (v:=sysV a1 x.pn c1 sa x.sn sc a2 x.wn c2 a3 x.hn c3) (by simp [results,results73,go_sem,r0,r1,r2,r3]) rfl ⟨_,rfl,?_,?_⟩
   ·obtain ⟨cc,hcc⟩:=OwnS.four (B:=w.heap.size) (m1:=W2.heap.size) (wf:=(((w3.setCell ⟨w.heap.size+1,0,none⟩ (.slice a1 x.pn c1)).setCell ⟨w.heap.size+1,1,none⟩ (.slice sa x.sn sc)).setCell ⟨w.heap.size+1,2,none⟩ (.slice a2 x.wn c2)).setCell ⟨w.heap.size+1,3,none⟩ (.slice a3 x.hn c3)) (y:=x.y) (by have:W2.heap.size<=wr.heap.size:=q0.size;omega) (by simp) (nA _) (nA _) (by omega) oz o1 o2 o3 ((nE wr.heap.size wr).drew.trans d1) d2 d3 (fun k h1 h2=>by repeat (rw [zN _ _ _ _ (show k≠w.heap.size+1 by omega)]))
    exact ⟨cc,_,_,_,_,_,_,_,_,rfl,hcc⟩
   ·have h9:=BW.trans (q3.mono BW.size)
    exact (((h9.setCell (show w.heap.size<=w.heap.size+1 by omega) _).setCell (show w.heap.size<=w.heap.size+1 by omega) _).setCell (show w.heap.size<=w.heap.size+1 by omega) _).setCell (show w.heap.size<=w.heap.size+1 by omega) _
section
variable {P:Program} {ops:Array Oper} {Q:Exit->Act->World->Prop} {md:Region.Mode} {S:World->Prop} {G:Nat->Bool}
def outI (b:Bool) (i:Nat):List Nat:=bif b then [] else [i]
theorem qlt {b:Bool} {i j:Nat} (h:j ∈ outI b i):b=false/\j=i:=by
 cases b with
 | true=>cases h
 | false=>exact ⟨rfl,List.mem_singleton.1 h⟩
end
section
variable {E:TypeId} {w w':World} {P:Nat->Prop} {v:Value} {n:Nat}
end
theorem qbj.base {z:Bool} {w:World} {B B':Nat} {y:Sy} {v:Value} (o:qbj z w B y v) (h:B'<=B):qbj z w B' y v:=by
 obtain ⟨c,vp,vs,vw,vh,up,us,uw,uh,e,o⟩:=o;exact ⟨c,vp,vs,vw,vh,up,us,uw,uh,e,o.p.mono fun _ q _=>⟨zO h q.1,q.2⟩,o.s.mono fun _ q _=>⟨zO h q.1,q.2⟩,o.t.mono fun _ q _=>⟨zO h q.1,q.2⟩,o.h.mono fun _ q _=>⟨zO h q.1,q.2⟩⟩
theorem qbj.setBelow {z:Bool} {w:World} {B:Nat} {y:Sy} {v:Value} (o:qbj z w B y v) {N:Nat} (h:N<B) (j:Nat) (u:Value):qbj z (w.setCell ⟨N,j,none⟩ u) B y v:=by
 obtain ⟨c,vp,vs,vw,vh,up,us,uw,uh,e,o⟩:=o
 have hk:∀ i k,Cl B c i k->k<w.heap.size->(w.setCell ⟨N,j,none⟩ u).heap[k]? = w.heap[k]?:=fun i k q _=>zN _ _ _ _ fun e=>by
  have e:k=N:=e;have:=q.1;omega
 exact ⟨c,vp,vs,vw,vh,up,us,uw,uh,e,o.p.keep (hk 1),o.s.keep (hk 2),o.t.keep (hk 3),o.h.keep (hk 4)⟩
theorem qbj.zero {z:Bool} (w:World) (B:Nat) (y:Sy):qbj z w B { y with pn:=0,sn:=0,wn:=0,hn:=0 } (sysV none 0 0 none 0 0 none 0 0 none 0 0):=
 ⟨fun _=>0,_,_,_,_,fun _=>.slice none 0 0,fun _=>.slice none 0 0,fun _=>.slice none 0 0,fun _=>.slice none 0 0,rfl,LL.nil _ _ _ _ _ _ _ _,LS.nil _ _ _ _,LL.nil _ _ _ _ _ _ _ _,LL.nil _ _ _ _ _ _ _ _⟩
theorem qbj.form {z:Bool} {w:World} {B:Nat} {y:Sy} {v:Value} (o:qbj z w B y v):∃ pa pc sa sc wa wc ha hc,v=sysV pa y.pn pc sa y.sn sc wa y.wn wc ha y.hn hc:=by
 obtain ⟨c,vp,vs,vw,vh,up,us,uw,uh,rfl,o⟩:=o;obtain ⟨pa,pc,rfl⟩:=zT o.p.row;obtain ⟨sa,sc,rfl⟩:=zT o.s.row;obtain ⟨wa,wc,rfl⟩:=zT o.t.row;obtain ⟨ha,hc,rfl⟩:=zT o.h.row;exact ⟨pa,pc,sa,sc,wa,wc,ha,hc,rfl⟩
open Go
section
variable {P:Program} {ops:Array Oper} {Q:Exit->Act->World->Prop} {md:Region.Mode} {S:World->Prop} {G:Nat->Bool}
theorem qq8 {α:Type} (lst:α->Array Bool) (rd:α->List Nat) (I:α->Act->World->Prop) (stop:α->Bool)
  (hrd:∀ s,stop s=false->Region.ready md ops (lst s)=rd s) (hne:∀ s,stop s=false->rd s≠[])
  (hstep:∀ s x w,I s x w->stop s=false->∀ i ∈ rd s,∃ s',(lst s).setIfInBounds i true=lst s'/\wpOp P ops Q i (fun x' w'=>(S w->G i=false->S w')/\I s' x' w') x w)
  (hstop:∀ s x w,I s x w->stop s=true->wpG P md ops Q S G ((lst s).toList.count false) (lst s) x w):
  ∀ (fuel:Nat) (s:α) (l:Array Bool) (x:Act) (w:World),lst s=l->I s x w->l.toList.count false=fuel->wpG P md ops Q S G fuel l x w:=by
 have key:∀ (L:Array Bool) (i:Nat),L.getD i true=false->∃ h:i<L.toList.length,L.toList[i]=false:=fun L i h=>by
  unfold Array.getD at h
  split at h
  ·rename_i hl
   exact ⟨by simpa using hl,by simpa using h⟩
  ·cases h
 intro fuel
 induction fuel with
 | zero=>
  intro s l x w hl hI hc;subst hl
  rcases zK (stop s) with hs | hs
  ·have:=hstop s x w hI hs
   rw [hc] at this;exact this
  ·have h0:=hne s hs
   rw [<- hrd s hs] at h0;obtain ⟨i,hi⟩:=List.exists_mem_of_ne_nil _ h0;obtain ⟨hl,he⟩:=key _ i (mem_ready.1 hi).1;have:false ∈ (lst s).toList:=by rw [<- he];exact List.getElem_mem hl
   have:=List.count_pos_iff.2 this;omega
 | succ fuel ih=>
  intro s l x w hl hI hc;subst hl
  rcases zK (stop s) with hs | hs
  ·have:=hstop s x w hI hs
   rw [hc] at this;exact this
  ·have h0:=hne s hs
   have h:=hstep s x w hI hs;rw [<- hrd s hs] at h0 h;refine ⟨fun e=>absurd e h0,fun i hi=>?_⟩;obtain ⟨s',e,hw⟩:=h i hi;refine wpOp_mono (fun x' w' h=>⟨h.1,?_⟩) hw;refine ih s' _ x' w' e.symm h.2 ?_;obtain ⟨hl,he⟩:=key _ i (mem_ready.1 hi).1;rw [Array.toList_setIfInBounds,List.count_set hl,he];show (lst s).toList.count false - 1+0=fuel;omega
end
variable {z:Bool}
theorem qni (n:Nat) (w:World) (h0:0<n) (hn:n<=2000000):
  Calls prog 196 #[nS,.int .i64 (n:Int)] w fun e w'=>∃ c,e=.returned (sG w.heap.size 0 c)/\w'.ownsRow w.heap.size 74 2 (sG w.heap.size 0 c) 0 []/\Below w.heap.size w w':=by
 obtain ⟨i,z,hi,hz,hs,hb,hzs⟩:=kndT.inf
 have hby:n*i.bytes<=140737488355328:=by
  rw [hb];omega
 have hrz:∀ ty,(Builtin.append_ #[72,3] ty #[nS,.int .i64 (n:Int)]).run prog w=.ok (.slice (some ⟨w.heap.size,0,none⟩) n (grownCap w n 0 74)) (w.drew.alloc (.cells (Builtin.zeroCells z.cells n ++ Builtin.zeroCells z.cells (grownCap w n 0 74 - n)) 74)):=fun ty=>by
  have h:=Lib.run_append_grow_zeros w 72 3 ty 74 i z .i64 .i64 kndT.und Tryz.underlying3 hi hz none 0 0 [] (run_firstCells_none w.drew i.size 0 0 0) n h0 (by omega) (by omega) (by omega) (by omega) (by rw [nL];exact growslice_fits (by omega) hby);simpa using h
 have hG:n<=grownCap w n 0 74:=grownCap_ge w _ _ _;have hGm:grownCap w n 0 74<=maxLen:=grownCap_le_maxLen w _ _ _ (by unfold maxLen;omega);have OW:Hid ((w.drew.alloc (.cells (Builtin.zeroCells z.cells n ++ Builtin.zeroCells z.cells (grownCap w n 0 74 - n)) 74)).ownsRow w.heap.size 74 2 (.slice (some ⟨w.heap.size,0,none⟩) 0 (grownCap w n 0 74)) 0 []):=World.ownsRow_made (base:=w.heap.size) (e:=74) (size:=2) w.drew _ _ (nA _) hGm (by rw [Array.size_append,size_zeroCells,size_zeroCells,hzs];omega);have BW:Hid (Below w.heap.size w (w.drew.alloc (.cells (Builtin.zeroCells z.cells n ++ Builtin.zeroCells z.cells (grownCap w n 0 74 - n)) 74))):=(nE w.heap.size w).drew.trans (zP w.drew _);generalize grownCap w n 0 74=G at *;generalize Builtin.zeroCells z.cells n ++ Builtin.zeroCells z.cells (G - n)=cs at *;have hG':(n:Int)<=(G:Int):=by omega
 have hG0:(0:Int)<=(G:Int):=by omega
 have hn0:¬ ((n:Int)<0):=by omega
 have hn1:(0:Int)<(n:Int):=by omega
 clear hi hz hs hb hzs hby hGm hG
 go_enter func196,ntmps196
 go_wp2_with (at_builtin;refine Lib.wpList_append_run _ rfl _ _ _ _ rfl _ _ rfl rfl _ _ (hrz _) ?_)
 all_goals
  go_ret;exact ⟨_,rfl,OW.out,BW.out⟩
theorem qi9 (b n1 c1 n2 c2:Nat) (a1 a2:Option Addr) (s1 s2:List Value) (w:World) (h1:n1<=1000000) (h2:n2<=1000000) (h0:0<n1+n2) (k1:w.cell? ⟨b,0,none⟩=some (.slice a1 n1 c1)) (k2:w.cell? ⟨b,1,none⟩=some (.slice a2 n2 c2)) (l1:s1.length=n1*2) (l2:s2.length=n2*2) (r1:Src w a1 s1) (r2:Src w a2 s2) (o1:∀ u ∈ s1,u.oneCell'=true) (o2:∀ u ∈ s2,u.oneCell'=true):
  Calls prog 144 #[.slice (some ⟨b,0,none⟩) 2 2] w fun e w'=>∃ v,e=.returned v/\w'.ownsRow w.heap.size 74 2 v (n1+n2) (s1 ++ s2)/\v≠nS/\Below w.heap.size w w':=by
 have H1:(n1:Int)<=1000000:=by omega
 have H2:(n2:Int)<=1000000:=by omega
 have KC:Hid (w.cell? ⟨b,0,none⟩=some (.slice a1 n1 c1)/\w.cell? ⟨b,1,none⟩=some (.slice a2 n2 c2)/\b<w.heap.size):=⟨k1,k2,zJ w _ k1⟩
 have RC:Hid ((s1.length=n1*2/\Src w a1 s1/\∀ u ∈ s1,u.oneCell'=true)/\(s2.length=n2*2/\Src w a2 s2/\∀ u ∈ s2,u.oneCell'=true)):=⟨⟨l1,r1,o1⟩,⟨l2,r2,o2⟩⟩
 clear l1 l2 r1 r2 o1 o2 k1 k2
 go_enter func144,ntmps144
 go_wp2_with fail
 go_loopw [3,11] (fun q i wr=>∃ j:Nat,j<=2/\i=.int .i64 j/\q=.int .i64 ((if j=0 then 0 else if j=1 then n1 else n1+n2:Nat):Int)/\wr=w) (fun _ i _=>2 - (intOf i).toNat)
 case atStart=>exact ⟨0,nD _,rfl,rfl,rfl⟩
 case round=>
  obtain ⟨j,hj,rfl,rfl,hwr⟩:=hrel;obtain rfl:=hwr.symm;obtain ⟨k1,k2,-⟩:=KC.out;by_cases hj0:j=0
  ·subst hj0
   simp only [nQ];go_wp2;go_roundw
   case rel=>exact ⟨1,by omega,by go_num,by simp,by first | rfl | trivial⟩
   case measure=>simp [intOf]
  ·by_cases hj1:j=1
   ·subst hj1
    simp only [nQ,nB (show ¬ (1:Nat)=0 by decide)];have hs:¬ ((n1:Int)+(n2:Int)<0):=by omega
    go_wp2;go_roundw
    case rel=>exact ⟨2,by omega,by go_num,by simp,by first | rfl | trivial⟩
    case measure=>simp [intOf]
   ·obtain rfl:j=2:=by omega
    simp only [nB (show ¬ (2:Nat)=0 by decide),nB (show ¬ (2:Nat)=1 by decide)];clear k1 k2;go_wp2_with fail
    refine (qni (n1+n2) w h0 (by omega)).mono ?_;rintro e w1 ⟨cg,rfl,og,bg⟩;have OG:Hid (w1.ownsRow w.heap.size 74 2 (sG w.heap.size 0 cg) 0 []/\Below w.heap.size w w1):=⟨og,bg⟩
    clear og bg;go_wp2_with fail
    go_loopw [6,27] (fun v i wx=>∃ j:Nat,j<=2/\i=.int .i64 j/\Hid (wx.ownsRow w.heap.size 74 2 v (if j=0 then 0 else if j=1 then n1 else n1+n2) (if j=0 then [] else if j=1 then s1 else s1 ++ s2)/\v≠nS/\Below w.heap.size w wx)) (fun _ i _=>2 - (intOf i).toNat)
    case atStart=>exact ⟨0,nD _,rfl,OG.1,by simp,OG.2⟩
    case round=>
     clear OG;obtain ⟨j,hj,rfl,HZ⟩:=hrel;obtain ⟨k1,k2,kb⟩:=KC.out;have HB:Hid (Below w.heap.size w wr):=HZ.2.2;have hne:Hid (u6≠nS):=HZ.2.1;by_cases hj0:j=0
     ·subst hj0
      have m1:=(HB.cell (p:=⟨b,0,none⟩) kb).trans k1;have OV:Hid (wr.ownsRow w.heap.size 74 2 u6 0 []):=HZ.1;clear k1 k2 kb HZ;go_wp2_with (at_builtin;refine qcg kndT wr rfl _ _ rfl w.heap.size u6 0 [] rfl OV.out a1 n1 c1 s1 rfl RC.1.1 (RC.1.2.1.bw HB.out) RC.1.2.2 (by omega) HB.size ?_;intro v5 w5 o5 g5 q5 n5;have F5:Hid (w5.ownsRow w.heap.size 74 2 v5 n1 s1/\v5≠nS/\Below w.heap.size w w5):=⟨by rw [nL,List.nil_append] at o5;exact o5,n5 (.inl hne.out),Below.grown HB.out g5 HB.size (fun j hj=>(OV.lt j hj).1)⟩;clear o5 g5 q5 n5)
      go_roundw
      case rel=>exact ⟨1,by omega,by go_num,F5.out⟩
      case measure=>simp [intOf]
     ·by_cases hj1:j=1
      ·subst hj1
       have m2:=(HB.cell (p:=⟨b,1,none⟩) kb).trans k2;have OV:Hid (wr.ownsRow w.heap.size 74 2 u6 n1 s1):=HZ.1;clear k1 k2 kb HZ;go_wp2_with (at_builtin;refine qcg kndT wr rfl _ _ rfl w.heap.size u6 n1 s1 rfl OV.out a2 n2 c2 s2 rfl RC.2.1 (RC.2.2.1.bw HB.out) RC.2.2.2 (by omega) HB.size ?_;intro v5 w5 o5 g5 q5 n5;have F5:Hid (w5.ownsRow w.heap.size 74 2 v5 (n1+n2) (s1 ++ s2)/\v5≠nS/\Below w.heap.size w w5):=⟨o5,n5 (.inl hne.out),Below.grown HB.out g5 HB.size (fun j hj=>(OV.lt j hj).1)⟩;clear o5 g5 q5 n5)
       go_roundw
       case rel=>exact ⟨2,by omega,by go_num,F5.out⟩
       case measure=>simp [intOf]
      ·obtain rfl:j=2:=by omega
       have F5:Hid (wr.ownsRow w.heap.size 74 2 u6 (n1+n2) (s1 ++ s2)/\u6≠nS/\Below w.heap.size w wr):=HZ.out;clear HZ k1 k2;go_wp2;go_ret;exact ⟨_,rfl,F5.out⟩
theorem qo3 (a:Option Addr) (n c:Nat) (lim:Int) (H:Nat->I2) (x:I2) (w:World) (hn:n<=1000) (hI:Src w a (fT H n)):
  Calls prog 77 #[.agg #[.slice a n c,.int .i64 lim],.agg #[.bool x.m,.int .i64 x.v]] w fun e w'=>∃ v,e=.returned v/\w'.ownsRow w.heap.size 74 2 v (n+1) (fT (fun i=>if i=n then x else H i) (n+1))/\v≠nS/\Below w.heap.size w w':=by
 have HI:Hid (Src w a (fT H n)):=hI
 have HF:Hid (fT (fun i=>if i=n then x else H i) (n+1)=fT H n ++ cT x):=by
  show flat (fun i=>cT (if i=n then x else H i)) n ++ cT (if n=n then x else H n)=flat (fun i=>cT (H i)) n ++ cT x;rw [nC rfl]
  congr 1
  exact qa2 fun i hi=>by rw [nB (by omega)]
 clear hI
 go_enter func77,ntmps77
 go_wp2_with fail
 have B3:Hid (Below w.heap.size w ((((w.alloc (.cells #[.slice a n c,.int .i64 lim] 78)).alloc (.cells #[.bool x.m,.int .i64 x.v] 74)).alloc (.cells #[.bool x.m,.int .i64 x.v] 74)).alloc (.cells #[.slice a n c,.slice (some ⟨w.heap.size+2,0,none⟩) 1 1] 72))):=by
  show Below w.heap.size w ((((w.alloc (.cells #[.slice a n c,.int .i64 lim] 78)).alloc (.cells #[.bool x.m,.int .i64 x.v] 74)).alloc (.cells #[.bool x.m,.int .i64 x.v] 74)).alloc (.cells #[.slice a n c,.slice (some ⟨w.heap.size+2,0,none⟩) 1 1] 72))
  go_grown
 have k1:((((w.alloc (.cells #[.slice a n c,.int .i64 lim] 78)).alloc (.cells #[.bool x.m,.int .i64 x.v] 74)).alloc (.cells #[.bool x.m,.int .i64 x.v] 74)).alloc (.cells #[.slice a n c,.slice (some ⟨w.heap.size+2,0,none⟩) 1 1] 72)).cell? ⟨w.heap.size+3,0,none⟩=some (.slice a n c):=zV _ _ _ 0 (by simp);have k2:((((w.alloc (.cells #[.slice a n c,.int .i64 lim] 78)).alloc (.cells #[.bool x.m,.int .i64 x.v] 74)).alloc (.cells #[.bool x.m,.int .i64 x.v] 74)).alloc (.cells #[.slice a n c,.slice (some ⟨w.heap.size+2,0,none⟩) 1 1] 72)).cell? ⟨w.heap.size+3,1,none⟩=some (.slice (some ⟨w.heap.size+2,0,none⟩) 1 1):=zV _ _ _ 1 (by simp)
 have r2 : Src ((((w.alloc (.cells #[.slice a n c, .int .i64 lim] 78)).alloc (.cells #[.bool x.m, .int .i64 x.v] 74)).alloc (.cells #[.bool x.m, .int .i64 x.v] 74)).alloc (.cells #[.slice a n c, .slice (some ⟨w.heap.size + 2, 0, none⟩) 1 1] 72)) (some ⟨w.heap.size + 2, 0, none⟩) (cT x) :=   .inr ⟨w.heap.size + 2, 0, rfl, (by simp), fun j u hj => by
  have ba:=zP (((w.alloc (.cells #[.slice a n c,.int .i64 lim] 78)).alloc (.cells #[.bool x.m,.int .i64 x.v] 74)).alloc (.cells #[.bool x.m,.int .i64 x.v] 74)) (.cells #[.slice a n c,.slice (some ⟨w.heap.size+2,0,none⟩) 1 1] 72);rw [nL,(qap ba).1 _ _ (by simp),zV _ _ _ j (by simp)]
  simpa [cT] using hj⟩
 refine (qi9 (w.heap.size+3) n c 1 1 a (some ⟨w.heap.size+2,0,none⟩) (fT H n) (cT x) ((((w.alloc (.cells #[.slice a n c,.int .i64 lim] 78)).alloc (.cells #[.bool x.m,.int .i64 x.v] 74)).alloc (.cells #[.bool x.m,.int .i64 x.v] 74)).alloc (.cells #[.slice a n c,.slice (some ⟨w.heap.size+2,0,none⟩) 1 1] 72)) (by omega) (by omega) (by omega) k1 k2 (qrp _ _) rfl (HI.bw B3.out) r2 (qrq _ _) (by intro u hu;simp [cT] at hu;rcases hu with rfl | rfl <;> rfl)).mono ?_;rintro e w5 ⟨v5,rfl,o5,n5,b5⟩;have F5:Hid (w5.ownsRow w.heap.size 74 2 v5 (n+1) (fT H n ++ cT x)/\v5≠nS/\Below w.heap.size w w5):=⟨o5.mono (by simp;omega),n5,B3.trans (b5.mono B3.size)⟩
 clear o5 n5 b5 k1 k2 r2 B3;go_wp2;go_ret;rw [HF.out];exact ⟨_,rfl,F5.out⟩
variable {z:Bool}
theorem qog (b n cap:Nat) (lim:Int) (H:Nat->I2) (w:World) (h0:0<n) (hn:n<=1000) (hc:n<=cap) (hcm:cap<=maxLen) (hb:b<w.heap.size) (hI:ItAt w b 0 n H):
  Calls prog 41 #[.agg #[.slice (some ⟨b,0,none⟩) n cap,.int .i64 lim]] w fun e w'=>∃ a c,e=.returned (.slice a (n - 1) c)/\w'.ownsRow w.heap.size 74 2 (.slice a (n - 1) c) (n - 1) (fT (fun i=>H (i+1)) (n - 1))/\Value.slice a (n - 1) c≠nS/\Below w.heap.size w w':=by
 have hn':(1:Int)<=(n:Int):=by omega
 have hnc:(n:Int)<=(cap:Int):=by omega
 have hl1:(n:Int) - 1=((n - 1:Nat):Int):=by omega
 have BA:Hid (Below w.heap.size w (w.alloc (.cells #[.slice (some ⟨b,0,none⟩) n cap,.int .i64 lim] 78))):=zP _ _
 have SR:Hid (Src w (some ⟨b,2,none⟩) (fT (fun i=>H (i+1)) (n - 1))):=by
  refine qvu (sz:=2) hb (by omega) (fun _ _=>rfl) fun i hi j hj=>?_;obtain ⟨q0,q1⟩:=hI (i+1) (by omega)
  match j,hj with
  | 0,_=>rw [show 2+(i*2+0)=0+(i+1)*2 by omega];exact q0
  | 1,_=>rw [show 2+(i*2+1)=0+(i+1)*2+1 by omega];exact q1
 have HN:Hid (0<n/\n<=1000/\n<=cap):=⟨h0,hn,hc⟩
 clear hI;by_cases hcb:cap=1
 ·subst hcb
  have hn1:n=1:=by omega
  subst hn1;clear hl1 hnc hn' h0 hn hc
  go_enter func41,ntmps41
  go_wp2_with fail
  refine (qdo _ _ 0 _ (fun i=>H (i+1)) _ (by omega) (.inl rfl)).mono ?_;rintro e w5 ⟨a5,c5,rfl,o5,n5,b5⟩;have F5:Hid (w5.ownsRow w.heap.size 74 2 (.slice a5 0 c5) 0 (fT (fun i=>H (i+1)) 0)/\Value.slice a5 0 c5≠nS/\Below w.heap.size w w5):=⟨o5.mono (by simp),n5,BA.trans (b5.mono BA.size)⟩
  clear o5 n5 b5;go_wp2;go_ret;exact ⟨_,_,rfl,F5.out⟩
 ·go_enter func41,ntmps41
  go_wp2_with fail
  refine (qdo b 2 (n - 1) _ (fun i=>H (i+1)) _ (by have:=HN.out;omega) (SR.bw BA.out)).mono ?_;rintro e w5 ⟨a5,c5,rfl,o5,n5,b5⟩;have F5:Hid (w5.ownsRow w.heap.size 74 2 (.slice a5 (n - 1) c5) (n - 1) (fT (fun i=>H (i+1)) (n - 1))/\Value.slice a5 (n - 1) c5≠nS/\Below w.heap.size w w5):=⟨o5.mono (by simp),n5,BA.trans (b5.mono BA.size)⟩
  clear o5 n5 b5;go_wp2;go_ret;exact ⟨_,_,rfl,F5.out⟩
