import Derived.Test.YtkdablcbhhphoaaGreatDoorMt10
import Derived.Test.YtkdablcbhhphoaaGreatDoorMt14
import Derived.Test.YtkdablcbhhphoaaGreatDoorMt12
import Derived.Deep.CutRange
namespace Go.Proofs.YtkdablcbhhphoaaGreatDoor
open Go.Proofs.Tryz
set_option maxRecDepth 100000
set_option maxHeartbeats 4000000
open Go.RowKit Go.Sort
def qwb (w:World) (B:Nat) (v0:Value) (os:List Int) (p' a' b' c' d':Int) (os':List Int) (code':Int) (e:Ending) (w':World):Prop:=
 ∃ oa' oc',e=.returned (dV p' a' b' c' d' oa' os'.length oc' code')/\OwnI w' B (.slice oa' os'.length oc') os'/\OwnI w' B v0 os/\w.grownBy w' v0.ownBlock/\∀ j,(Value.slice oa' os'.length oc').ownBlock=some j->v0.ownBlock=some j\/w.heap.size<=j
theorem qim {w w':World} {row:Option Nat} {B:Nat} (h:w.grownBy w' row) (hr:∀ j,row=some j->B<=j) (hB:B<=w.heap.size):Below B w w':=
 ⟨h.os,h.tape,h.output,h.size,fun k hk=>h.block k (by omega) (fun e=>by have:=hr k e.symm;omega)⟩
structure DC (w:World) (N:Nat) (p a b c d:Int) (o:Option Addr) (n m:Nat) (code:Int):Prop where
 d0:w.cell? ⟨N,0,none⟩=some (.int .i64 p)
 d1:w.cell? ⟨N,1,none⟩=some (.int .i64 a)
 d2:w.cell? ⟨N,2,none⟩=some (.int .i64 b)
 d3:w.cell? ⟨N,3,none⟩=some (.int .i64 c)
 d4:w.cell? ⟨N,4,none⟩=some (.int .i64 d)
 d5:w.cell? ⟨N,5,none⟩=some (.slice o n m)
 d6:w.cell? ⟨N,6,none⟩=some (.int .i64 code)
theorem DC.kept {w w':World} {N:Nat} {p a b c d:Int} {o:Option Addr} {n m:Nat} {code:Int} (h:DC w N p a b c d o n m code) (hb:w'.heap[N]? = w.heap[N]?):DC w' N p a b c d o n m code:=
 ⟨(zH hb).trans h.d0,(zH hb).trans h.d1,(zH hb).trans h.d2,(zH hb).trans h.d3,(zH hb).trans h.d4,(zH hb).trans h.d5,(zH hb).trans h.d6⟩
theorem DC.lt {w:World} {N:Nat} {p a b c d:Int} {o:Option Addr} {n m:Nat} {code:Int} (h:DC w N p a b c d o n m code):N<w.heap.size:=zJ w _ h.d0
theorem DC.new (w:World) (p a b c d:Int) (o:Option Addr) (n m:Nat) (code:Int) (t:TypeId):DC (w.alloc (.cells #[.int .i64 p,.int .i64 a,.int .i64 b,.int .i64 c,.int .i64 d,.slice o n m,.int .i64 code] t)) w.heap.size p a b c d o n m code:=
 ⟨zV _ _ _ 0 rfl,zV _ _ _ 1 rfl,zV _ _ _ 2 rfl,zV _ _ _ 3 rfl,zV _ _ _ 4 rfl,zV _ _ _ 5 rfl,zV _ _ _ 6 rfl⟩
theorem qy7 (w:World) (N:Nat) (v0 v1 v2 v3 v4 v5 v6:Value):w.grownBy (((((((w.setCell ⟨N,0,none⟩ v0).setCell ⟨N,1,none⟩ v1).setCell ⟨N,2,none⟩ v2).setCell ⟨N,3,none⟩ v3).setCell ⟨N,4,none⟩ v4).setCell ⟨N,5,none⟩ v5).setCell ⟨N,6,none⟩ v6) (some N):=by
 repeat (refine zU ?_ (.inl rfl) _)
 exact World.grownBy.refl _ _
theorem DC.put {w:World} {N:Nat} {p a b c d:Int} {o:Option Addr} {n m:Nat} {code:Int} (h:DC w N p a b c d o n m code) (p' a' b' c' d':Int) (o':Option Addr) (n' m':Nat) (code':Int):
  DC (((((((w.setCell ⟨N,0,none⟩ (.int .i64 p')).setCell ⟨N,1,none⟩ (.int .i64 a')).setCell ⟨N,2,none⟩ (.int .i64 b')).setCell ⟨N,3,none⟩ (.int .i64 c')).setCell ⟨N,4,none⟩ (.int .i64 d')).setCell ⟨N,5,none⟩ (.slice o' n' m')).setCell ⟨N,6,none⟩ (.int .i64 code')) N p' a' b' c' d' o' n' m' code':=by
 obtain ⟨d0,d1,d2,d3,d4,d5,d6⟩:=h;exact ⟨by go_cell,by go_cell,by go_cell,by go_cell,by go_cell,by go_cell,by go_cell⟩
def qgv (w:World) (N5 B:Nat) (k:Int) (ra oa:Option Addr) (rc oc:Nat) (a1 a2 a3 a4:Int) (os:List Int) (ek eq ev:Int) (o1:Option Addr) (c1:Nat) (p' b1 b2 b3 b4:Int) (os':List Int) (code':Int) (wx:World) (N:Nat):Prop:=
 qa0 wx w.heap.size (.int .i64 k) (.slice ra 4 rc) (.slice oa os.length oc) (.int .i64 0) ek eq ev/\DC wx N5 k a1 a2 a3 a4 o1 os.length c1 0/\(∃ o2 c2,DC wx N p' b1 b2 b3 b4 o2 os'.length c2 code'/\OwnI wx B (.slice o2 os'.length c2) os')/\OwnI wx B (.slice o1 os.length c1) os/\Below w.heap.size w wx
theorem qgv.of_alloc {w:World} {N5 B:Nat} {k:Int} {ra oa:Option Addr} {rc oc:Nat} {a1 a2 a3 a4:Int} {os:List Int} {ek eq ev:Int} {o1:Option Addr} {c1:Nat} {p' b1 b2 b3 b4:Int} {os':List Int} {code':Int} {w8:World} {o2:Option Addr} {c2:Nat} (X8:qa0 w8 w.heap.size (.int .i64 k) (.slice ra 4 rc) (.slice oa os.length oc) (.int .i64 0) ek eq ev) (Y8:DC w8 N5 k a1 a2 a3 a4 o1 os.length c1 0) (N8:OwnI w8 B (.slice o2 os'.length c2) os') (M8:OwnI w8 B (.slice o1 os.length c1) os) (B8:Below w.heap.size w w8) (t:TypeId):
  qgv w N5 B k ra oa rc oc a1 a2 a3 a4 os ek eq ev o1 c1 p' b1 b2 b3 b4 os' code' (w8.alloc (.cells #[.int .i64 p',.int .i64 b1,.int .i64 b2,.int .i64 b3,.int .i64 b4,.slice o2 os'.length c2,.int .i64 code'] t)) w8.heap.size:=by
 have ba:=zS w8 (.cells #[.int .i64 p',.int .i64 b1,.int .i64 b2,.int .i64 b3,.int .i64 b4,.slice o2 os'.length c2,.int .i64 code'] t);exact ⟨X8.bw ba,Y8.kept (ba.block N5 Y8.lt),⟨o2,c2,DC.new w8 _ _ _ _ _ _ _ _ _ _,N8.bw ba⟩,M8.bw ba,B8.trans (ba.mono B8.size)⟩
theorem qgv.of_put {w:World} {N5 B:Nat} {k:Int} {ra oa:Option Addr} {rc oc:Nat} {a1 a2 a3 a4:Int} {os:List Int} {ek eq ev:Int} {o1:Option Addr} {c1:Nat} {p' b1 b2 b3 b4:Int} {os':List Int} {code':Int} {w8:World} {o2:Option Addr} {c2 N:Nat} (X8:qa0 w8 w.heap.size (.int .i64 k) (.slice ra 4 rc) (.slice oa os.length oc) (.int .i64 0) ek eq ev) (Y8:DC w8 N5 k a1 a2 a3 a4 o1 os.length c1 0) (N8:OwnI w8 B (.slice o2 os'.length c2) os') (M8:OwnI w8 B (.slice o1 os.length c1) os) (B8:Below w.heap.size w w8)
  (hN:N5<N) (h5:w.heap.size+1+1<N5) (hZ:DC w8 N 0 0 0 0 0 none 0 0 0) (nM:∀ j,(Value.slice o1 os.length c1).ownBlock=some j->j≠N) (nN:∀ j,(Value.slice o2 os'.length c2).ownBlock=some j->j≠N):
  qgv w N5 B k ra oa rc oc a1 a2 a3 a4 os ek eq ev o1 c1 p' b1 b2 b3 b4 os' code' (((((((w8.setCell ⟨N,0,none⟩ (.int .i64 p')).setCell ⟨N,1,none⟩ (.int .i64 b1)).setCell ⟨N,2,none⟩ (.int .i64 b2)).setCell ⟨N,3,none⟩ (.int .i64 b3)).setCell ⟨N,4,none⟩ (.int .i64 b4)).setCell ⟨N,5,none⟩ (.slice o2 os'.length c2)).setCell ⟨N,6,none⟩ (.int .i64 code')) N:=by
 have gz:=qy7 w8 N (.int .i64 p') (.int .i64 b1) (.int .i64 b2) (.int .i64 b3) (.int .i64 b4) (.slice o2 os'.length c2) (.int .i64 code');have l8:=Y8.lt;refine ⟨?_,?_,⟨o2,c2,?_,?_⟩,?_,?_⟩
 ·exact X8.kept fun j h1 h2=>gz.block j (by omega) (by simp;omega)
 ·exact Y8.kept (gz.block N5 (by omega) (by simp;omega))
 ·exact hZ.put _ _ _ _ _ _ _ _ _
 ·repeat (refine OwnI.setOther ?_ (fun e=>nN _ e rfl) _)
  exact N8
 ·repeat (refine OwnI.setOther ?_ (fun e=>nM _ e rfl) _)
  exact M8
 ·exact B8.trans (qim gz (fun j hj=>by simp at hj;omega) B8.size)
def qat (len:Nat) (p a b c d:Int) (os:List Int) (p' a' b' c' d':Int) (os':List Int) (code':Int):S4:=
 if qc2 [a',b',c',d']=false\/(60:Int)<(os'.length:Int) then ⟨p,[a,b,c,d],os,2⟩ else if belB p' len=false then ⟨p,[a',b',c',d'],os',2⟩ else ⟨p',[a',b',c',d'],os',code'⟩
theorem qx7 (b off len cap:Nat) (g:Nat->I5) (p code:Int) (ra oa:Option Addr) (rc oc:Nat) (rs os:List Int) (ek eq ev:Int) (w:World) (hlen:len<=maxLen) (hb:b<w.heap.size) (hI:qao w b off len g) (hr:rs.length<=1048576) (ho:os.length<=1048576) (h1:Sl w ra rs) (h2:Sl w oa os) (hD:canB (nxK g len p rs os code) (nxP g len p rs os code) (nxW g len p rs os code) ek eq ev=false) (hP:qac g len 4=true):
  Calls prog 113 #[.slice (some ⟨b,off,none⟩) len cap,stV p ra rs.length rc oa os.length oc code,evV ek eq ev] w (qdd w ⟨p,rs,os,code⟩ false):=by
 have HI:Hid (qao w b off len g):=hI;have H1:Hid (Sl w ra rs):=h1;have H2:Hid (Sl w oa os):=h2;have HL:Hid (len<=maxLen):=hlen;have HP:Hid (qac g len 4=true):=hP;clear hI h1 h2 hlen hP
 go_enter func113,ntmps113
 go_wp2_with fail
 have X:=qa0.new w (.int .i64 (p)) (.slice ra rs.length rc) (.slice oa os.length oc) (.int .i64 code) ek eq ev 142 86 142
 have BW:Hid (Below w.heap.size w (((w.alloc (oQ1 p ra rs.length rc oa os.length oc code)).alloc (oQ0 ek eq ev)).alloc (zQ0))):=by
  show Below _ _ _
  go_grown
 generalize (((w.alloc (oQ1 p ra rs.length rc oa os.length oc code)).alloc (oQ0 ek eq ev)).alloc (zQ0))=W at *;have HX:Hid (qa0 W w.heap.size (.int .i64 (p)) (.slice ra rs.length rc) (.slice oa os.length oc) (.int .i64 code) ek eq ev):=X;have l2:=X.lt;obtain ⟨p0,p1,p2,p3,e0,e1,e2,r0,r1,r2,r3,rf⟩:=X;have p0':=cell_regrown p0;have p1':=cell_regrown p1;have p2':=cell_regrown p2;have p3':=cell_regrown p3;have e0':=cell_regrown e0;have e1':=cell_regrown e1;have e2':=cell_regrown e2;have HB':Hid (∀ d os',Below w.heap.size w (grow (redrawn W d) os')):=fun d os'=>BW.trans ((below_regrown W d os').mono BW.size);clear p0 p1 p2 p3 e0 e1 e2 r0 r1 r2 r3 rf;refine wp_region_quiet_below (by kernel_rfl) (by kernel_rfl) ?_
 repeat (quiet_step (first|(go_at_call 109;exact Calls.regrown_of (qj6 b off len cap g (p) code ra oa rc oc rs os _ HL.out (zL hb (HB'.out _ _).size) (HI.bw (HB'.out _ _) hb) ho (H1.bw (HB'.out _ _)) (H2.bw (HB'.out _ _)) HP.out))|(go_at_call 167;exact Calls.regrown_of (qig _ _ _ _ _ _ _))))
 refine wpQuiet_nil ?_;intro _ hw';obtain ⟨⟨dq,osq⟩,hw''⟩:=hw';subst hw'';have b3:=below_regrown W dq osq;have B3:Hid (Below w.heap.size w (grow (redrawn W dq) osq)):=BW.trans (b3.mono BW.size);have X:=HX.bw b3;have l3:=X.lt;generalize grow (redrawn W dq) osq=w3 at *;clear b3 p0' p1' p2' p3' e0' e1' e2' BW HB' l2 HX;obtain ⟨p0,p1,p2,p3,e0,e1,e2,r0,r1,r2,r3,rf⟩:=X;go_wp2_with fail
 refine (qfm p code ra oa rc oc rs os _ hr ho (H1.bw B3.out) (H2.bw B3.out)).mono ?_;rintro e w4 ⟨v,rfl,o4,b4⟩;obtain ⟨ra2,rc2,oa2,oc2,rfl,-,-⟩:=o4.read;obtain ⟨hc4,hf4⟩:=qap b4;have O4:Hid (qag w4 w3.heap.size (stV p ra2 rs.length rc2 oa2 os.length oc2 code) p rs os code):=o4;have B4:Hid (Below w.heap.size w w4):=B3.trans (b4.mono B3.size);clear o4 b4;go_wp2;refine bodyPost_ret (v:=.tuple #[stV p ra2 rs.length rc2 oa2 os.length oc2 code,.bool false]) (by simp [results,results113,go_sem,hc4,l3,r0,r1,r2,r3]) rfl ⟨_,rfl,?_,?_⟩
 ·exact qag.put4 (B':=w3.heap.size) O4.out l3 (by omega)
 ·have:=B4.out
  go_grown
theorem qqv (p a b c d:Int) (oa:Option Addr) (oc:Nat) (os:List Int) (code p' a' b' c' d':Int) (oa':Option Addr) (oc':Nat) (os':List Int) (code':Int) (n B:Nat) (w:World) (h1:OwnI w B (.slice oa os.length oc) os) (h2:OwnI w B (.slice oa' os'.length oc') os') (S:S4) (hS:qat n p a b c d os p' a' b' c' d' os' code'=S):
  Calls prog 170 #[dV p a b c d oa os.length oc code,dV p' a' b' c' d' oa' os'.length oc' code',.int .i64 n] w fun e w'=>∃ o3 c3 x1 x2 x3 x4,e=.returned (dV S.p x1 x2 x3 x4 o3 S.os.length c3 S.c)/\S.rs=[x1,x2,x3,x4]/\OwnI w' B (.slice o3 S.os.length c3) S.os/\Below w.heap.size w w':=by
 subst hS;unfold qat
 rcases zK (qc2 [a',b',c',d']) with hr | hr
 ·by_cases hn:(60:Int)<(os'.length:Int)
  ·rw [nC (.inr hn)]
   refine (qoi _ _ _ _ _ _ _ _ _ _ _ _ _ _ _ _ _ _ _ _ hr hn).mono ?_;rintro e w1 ⟨rfl,b1⟩;exact ⟨_,_,_,_,_,_,rfl,rfl,h1.bw b1,b1⟩
  ·rw [nB (by simp [hr,hn])]
   rcases zK (belB p' n) with hp | hp
   ·rw [nB (by simp [hp])]
    refine (qt7 _ _ _ _ _ _ _ _ _ _ _ _ _ _ _ _ _ _ _ _ hr hn hp).mono ?_;rintro e w1 ⟨rfl,b1⟩;exact ⟨_,_,_,_,_,_,rfl,rfl,h2.bw b1,b1⟩
   ·rw [nC hp]
    refine (qqw _ _ _ _ _ _ _ _ _ _ _ _ _ _ _ _ _ _ _ _ hr hn hp).mono ?_;rintro e w1 ⟨rfl,b1⟩;exact ⟨_,_,_,_,_,_,rfl,rfl,h2.bw b1,b1⟩
 ·rw [nC (.inl hr)]
  refine (qok _ _ _ _ _ _ _ _ _ _ _ _ _ _ _ _ _ _ _ _ hr).mono ?_;rintro e w1 ⟨rfl,b1⟩;exact ⟨_,_,_,_,_,_,rfl,rfl,h1.bw b1,b1⟩
theorem qbk (b off len cap k:Nat) (g:Nat->I5) (ra oa:Option Addr) (rc oc:Nat) (a1 a2 a3 a4:Int) (os:List Int) (ek eq ev:Int) (w:World) (F:FuncId) (hE:∀ args wx,(callFunc F args).run prog wx=.ok (.enter F args) wx) (p' b1 b2 b3 b4:Int) (os':List Int) (code':Int) (hlen:len<=maxLen) (hb:b<w.heap.size) (hI:qao w b off len g) (ho:os.length<=60) (h1:Sl w ra [a1,a2,a3,a4]) (h2:Sl w oa os) (hk:k<len) (hD:canB (nxK g len k [a1,a2,a3,a4] os 0) (nxP g len k [a1,a2,a3,a4] os 0) (nxW g len k [a1,a2,a3,a4] os 0) ek eq ev=true)
  (hF:∀ wx,Calls prog 169 #[.int .i64 (g k).o] wx (rB wx (.func (.func F) #[] #[])))
  (hS:∀ (o1:Option Addr) (c1 B:Nat) (wx:World),B<=wx.heap.size->OwnI wx B (.slice o1 os.length c1) os->Calls prog F #[dV k a1 a2 a3 a4 o1 os.length c1 0,insV (g k).o (g k).r (g k).a (g k).b (g k).n,evV ek eq ev] wx (qwb wx B (.slice o1 os.length c1) os p' b1 b2 b3 b4 os' code')):
  Calls prog 113 #[.slice (some ⟨b,off,none⟩) len cap,stV k ra 4 rc oa os.length oc 0,evV ek eq ev] w (qdd w (qat len k a1 a2 a3 a4 os p' b1 b2 b3 b4 os' code') true):=by
 have HI:Hid (qao w b off len g):=hI;have H1:Hid (Sl w ra [a1,a2,a3,a4]):=h1;have H2:Hid (Sl w oa os):=h2;have HL:Hid (len<=maxLen):=hlen;have HP:Hid (qac g len 4=true):=(qbe (qdx hD)).1;have HF:Hid (∀ wx,Calls prog 169 #[.int .i64 (g k).o] wx (rB wx (.func (.func F) #[] #[]))):=hF;have HS:Hid (∀ (o1:Option Addr) (c1 B:Nat) (wx:World),B<=wx.heap.size->OwnI wx B (.slice o1 os.length c1) os->Calls prog F #[dV k a1 a2 a3 a4 o1 os.length c1 0,insV (g k).o (g k).r (g k).a (g k).b (g k).n,evV ek eq ev] wx (qwb wx B (.slice o1 os.length c1) os p' b1 b2 b3 b4 os' code')):=hS;have ho':=ho;replace ho:os.length<=1048576:=by omega
 have hk':(k:Int)<(len:Int):=by omega
 have hl':(len:Int)<=9223372036854775807:=by have:=HL.out;unfold maxLen at this;omega
 clear hI h1 h2 hlen hF hS;generalize hT:qat len k a1 a2 a3 a4 os p' b1 b2 b3 b4 os' code'=S;have HT:Hid (qat len k a1 a2 a3 a4 os p' b1 b2 b3 b4 os' code'=S):=hT;clear hT
 go_enter func113,ntmps113
 go_wp2_with fail
 have X:=qa0.new w (.int .i64 (k)) (.slice ra 4 rc) (.slice oa os.length oc) (.int .i64 0) ek eq ev 142 86 142
 have BW:Hid (Below w.heap.size w (((w.alloc (oQ1 k ra 4 rc oa os.length oc 0)).alloc (oQ0 ek eq ev)).alloc (zQ0))):=by
  show Below _ _ _
  go_grown
 generalize (((w.alloc (oQ1 k ra 4 rc oa os.length oc 0)).alloc (oQ0 ek eq ev)).alloc (zQ0))=W at *;have HX:Hid (qa0 W w.heap.size (.int .i64 (k)) (.slice ra 4 rc) (.slice oa os.length oc) (.int .i64 0) ek eq ev):=X;have l2:=X.lt;obtain ⟨p0,p1,p2,p3,e0,e1,e2,r0,r1,r2,r3,rf⟩:=X;have p0':=cell_regrown p0;have p1':=cell_regrown p1;have p2':=cell_regrown p2;have p3':=cell_regrown p3;have e0':=cell_regrown e0;have e1':=cell_regrown e1;have e2':=cell_regrown e2;have HB':Hid (∀ d os',Below w.heap.size w (grow (redrawn W d) os')):=fun d os'=>BW.trans ((below_regrown W d os').mono BW.size);clear p0 p1 p2 p3 e0 e1 e2 r0 r1 r2 r3 rf;refine wp_region_quiet_below (by kernel_rfl) (by kernel_rfl) ?_
 repeat (quiet_step (first|(go_at_call 109;exact Calls.regrown_of (qj6 b off len cap g (k) 0 ra oa rc oc [a1,a2,a3,a4] os _ HL.out (zL hb (HB'.out _ _).size) (HI.bw (HB'.out _ _) hb) ho (H1.bw (HB'.out _ _)) (H2.bw (HB'.out _ _)) HP.out))|(go_at_call 167;exact Calls.regrown_of (qig _ _ _ _ _ _ _))))
 refine wpQuiet_nil ?_;intro _ hw';obtain ⟨⟨dq,osq⟩,hw''⟩:=hw';subst hw'';have b3:=below_regrown W dq osq;have B3:Hid (Below w.heap.size w (grow (redrawn W dq) osq)):=BW.trans (b3.mono BW.size);have X:=HX.bw b3;have l3:=X.lt;generalize grow (redrawn W dq) osq=w3 at *;clear b3 p0' p1' p2' p3' e0' e1' e2' BW HB' l2 HX;obtain ⟨p0,p1,p2,p3,e0,e1,e2,r0,r1,r2,r3,rf⟩:=X;clear hD;obtain ⟨c0,c1,c2,c3,c4⟩:=HI.bw B3.out hb k hk;have X3:qa0 w3 w.heap.size (.int .i64 k) (.slice ra 4 rc) (.slice oa os.length oc) (.int .i64 0) ek eq ev:=⟨p0,p1,p2,p3,e0,e1,e2,r0,r1,r2,r3,rf⟩
 have bX:=zS w3 (oQ2 (g k).o (g k).r (g k).a (g k).b (g k).n);have X4:Hid (qa0 (w3.alloc (oQ2 (g k).o (g k).r (g k).a (g k).b (g k).n)) w.heap.size (.int .i64 k) (.slice ra 4 rc) (.slice oa os.length oc) (.int .i64 0) ek eq ev):=X3.bw bX;have B4:Hid (Below w.heap.size w (w3.alloc (oQ2 (g k).o (g k).r (g k).a (g k).b (g k).n))):=B3.trans (bX.mono B3.size);obtain ⟨q0,q1,q2,q3,-,-,-,-,-,-,-,-⟩:=X4.out;clear X3 bX;go_wp2_with fail
 have i0:(w3.alloc (oQ2 (g k).o (g k).r (g k).a (g k).b (g k).n)).cell? ⟨w3.heap.size,0,none⟩=some (.int .i64 (g k).o):=zV _ _ _ 0 rfl;have i1:(w3.alloc (oQ2 (g k).o (g k).r (g k).a (g k).b (g k).n)).cell? ⟨w3.heap.size,1,none⟩=some (.int .i64 (g k).r):=zV _ _ _ 1 rfl;have i2:(w3.alloc (oQ2 (g k).o (g k).r (g k).a (g k).b (g k).n)).cell? ⟨w3.heap.size,2,none⟩=some (.int .i64 (g k).a):=zV _ _ _ 2 rfl;have i3:(w3.alloc (oQ2 (g k).o (g k).r (g k).a (g k).b (g k).n)).cell? ⟨w3.heap.size,3,none⟩=some (.int .i64 (g k).b):=zV _ _ _ 3 rfl;have i4:(w3.alloc (oQ2 (g k).o (g k).r (g k).a (g k).b (g k).n)).cell? ⟨w3.heap.size,4,none⟩=some (.int .i64 (g k).n):=zV _ _ _ 4 rfl;have zX:w3.heap.size<(w3.alloc (oQ2 (g k).o (g k).r (g k).a (g k).b (g k).n)).heap.size:=by simp
 clear p0 p1 p2 p3 e0 e1 e2 r0 r1 r2 r3 rf c0 c1 c2 c3 c4 q0 q1 q2 q3;generalize w3.alloc (oQ2 (g k).o (g k).r (g k).a (g k).b (g k).n)=W4 at *;generalize w3.heap.size=N3 at *;refine (qps (k:Int) 0 ra oa rc oc a1 a2 a3 a4 os _ ho (H1.bw B4.out) (H2.bw B4.out)).mono ?_;rintro e w5 ⟨o1,c1,rfl,o5,b5⟩;have X5:Hid (qa0 w5 w.heap.size (.int .i64 k) (.slice ra 4 rc) (.slice oa os.length oc) (.int .i64 0) ek eq ev):=X4.bw b5;have B5:Hid (Below w.heap.size w w5):=B4.trans (b5.mono B4.size);have O5:Hid (OwnI w5 W4.heap.size (.slice o1 os.length c1) os):=o5;obtain ⟨hc5,-⟩:=qap b5;replace i0:=(hc5 _ 0 zX).trans i0;replace i1:=(hc5 _ 1 zX).trans i1;replace i2:=(hc5 _ 2 zX).trans i2;replace i3:=(hc5 _ 3 zX).trans i3;replace i4:=(hc5 _ 4 zX).trans i4;have z5:W4.heap.size<=w5.heap.size:=b5.size;clear hc5 b5 o5 X4 B4 B3;go_wp2_with fail
 have bY:=zS w5 (oQ3 k a1 a2 a3 a4 o1 os.length c1 0);have X6:Hid (qa0 (w5.alloc (oQ3 k a1 a2 a3 a4 o1 os.length c1 0)) w.heap.size (.int .i64 k) (.slice ra 4 rc) (.slice oa os.length oc) (.int .i64 0) ek eq ev):=X5.bw bY;have Y6:Hid (DC (w5.alloc (oQ3 k a1 a2 a3 a4 o1 os.length c1 0)) w5.heap.size k a1 a2 a3 a4 o1 os.length c1 0):=DC.new w5 _ _ _ _ _ _ _ _ _ _;have B6:Hid (Below w.heap.size w (w5.alloc (oQ3 k a1 a2 a3 a4 o1 os.length c1 0))):=B5.trans (bY.mono B5.size);have O6:Hid (OwnI (w5.alloc (oQ3 k a1 a2 a3 a4 o1 os.length c1 0)) W4.heap.size (.slice o1 os.length c1) os):=O5.bw bY;have LO:Hid (∀ j,(Value.slice o1 os.length c1).ownBlock=some j->W4.heap.size<=j/\j<w5.heap.size):=fun j hj=>O5.lt j hj;have l5:N3<w5.heap.size:=by omega
 obtain ⟨hcY,-⟩:=qap bY;replace i0:=(hcY _ 0 l5).trans i0;replace i1:=(hcY _ 1 l5).trans i1;replace i2:=(hcY _ 2 l5).trans i2;replace i3:=(hcY _ 3 l5).trans i3;replace i4:=(hcY _ 4 l5).trans i4;have z6:w5.heap.size<(w5.alloc (oQ3 k a1 a2 a3 a4 o1 os.length c1 0)).heap.size:=by simp
 clear X5 B5 O5 bY hcY;generalize w5.alloc (oQ3 k a1 a2 a3 a4 o1 os.length c1 0)=W6 at *;generalize w5.heap.size=N5 at *;obtain ⟨j0,j1,j2,j3,j4,j5,j6⟩:=Y6.out;obtain ⟨-,-,-,-,e0,e1,e2,-,-,-,-,-⟩:=X6.out;have g1:N3<W6.heap.size:=by omega
 have g2:w.heap.size+1<W6.heap.size:=by omega
 have d61:W6.heap.size≠N3:=by omega
 have d62:W6.heap.size≠N5:=by omega
 have d63:W6.heap.size≠w.heap.size+1:=by omega
 have z6':N5<=W6.heap.size:=nJ z6
 go_cut [10] from 26 to 32 (fun s wx=>∃ N:Nat,s=.pointer (some ⟨N,0,none⟩)/\Hid (qgv w N5 W4.heap.size k ra oa rc oc a1 a2 a3 a4 os ek eq ev o1 c1 p' b1 b2 b3 b4 os' code' wx N))
 case first=>
  go_region_held3 (fun w'=>w'.cell? ⟨N3,0,none⟩=some (.int .i64 (g k).o)/\w'.cell? ⟨N3,1,none⟩=some (.int .i64 (g k).r)/\w'.cell? ⟨N3,2,none⟩=some (.int .i64 (g k).a)/\w'.cell? ⟨N3,3,none⟩=some (.int .i64 (g k).b)/\w'.cell? ⟨N3,4,none⟩=some (.int .i64 (g k).n)/\w'.cell? ⟨N5,0,none⟩=some (.int .i64 k)/\w'.cell? ⟨N5,1,none⟩=some (.int .i64 a1)/\w'.cell? ⟨N5,2,none⟩=some (.int .i64 a2)/\w'.cell? ⟨N5,3,none⟩=some (.int .i64 a3)/\w'.cell? ⟨N5,4,none⟩=some (.int .i64 a4)/\w'.cell? ⟨N5,5,none⟩=some (.slice o1 os.length c1)/\w'.cell? ⟨N5,6,none⟩=some (.int .i64 0)/\w'.cell? ⟨w.heap.size+1,0,none⟩=some (.int .i64 ek)/\w'.cell? ⟨w.heap.size+1,1,none⟩=some (.int .i64 eq)/\w'.cell? ⟨w.heap.size+1,2,none⟩=some (.int .i64 ev)) (go_keep)
   (first
    | (go_at_call 169;refine (HF.out _).mono ?_;rintro e w7 ⟨rfl,b7⟩;have q7:Below W6.heap.size W6 w7:=qai (by go_grown) b7 (by simp);obtain ⟨hc7,hf7⟩:=qap b7;obtain ⟨hq7,-⟩:=qap q7;have t0:=(hq7 (N3) 0 g1).trans i0;have t1:=(hq7 (N3) 1 g1).trans i1;have t2:=(hq7 (N3) 2 g1).trans i2;have t3:=(hq7 (N3) 3 g1).trans i3;have t4:=(hq7 (N3) 4 g1).trans i4;have t5:=(hq7 (N5) 0 z6).trans j0;have t6:=(hq7 (N5) 1 z6).trans j1;have t7:=(hq7 (N5) 2 z6).trans j2;have t8:=(hq7 (N5) 3 z6).trans j3;have t9:=(hq7 (N5) 4 z6).trans j4;have t10:=(hq7 (N5) 5 z6).trans j5;have t11:=(hq7 (N5) 6 z6).trans j6;have t12:=(hq7 (w.heap.size+1) 0 g2).trans e0;have t13:=(hq7 (w.heap.size+1) 1 g2).trans e1;have t14:=(hq7 (w.heap.size+1) 2 g2).trans e2;clear hq7;have Q7:Hid (Below W6.heap.size W6 w7):=q7;have l71:N3<w7.heap.size:=zL g1 q7.size;have l72:N5<w7.heap.size:=zL z6 q7.size;have l73:w.heap.size+1<w7.heap.size:=zL g2 q7.size;have l75:N5<=w7.heap.size:=nJ l72;have l74:=b7.size;(try simp only [World.size_alloc,World.size_drew,Nat.add_one_le_iff] at l74);have d71:w7.heap.size≠N3:=Nat.ne_of_gt l71;have d72:w7.heap.size≠N5:=Nat.ne_of_gt l72;have d73:w7.heap.size≠w.heap.size+1:=Nat.ne_of_gt l73;have O7:Hid (OwnI w7 W4.heap.size (.slice o1 os.length c1) os):=O6.bw q7;clear b7 q7)
    | (refine (HS.out o1 c1 W4.heap.size _ (by have:=Q7.size;simp;omega) (O7.bw (by go_grown))).mono ?_;rintro e w8 ⟨o2,c2,rfl,n8,m8,g8,a8⟩;(try simp only [World.size_alloc] at a8);have A8:Hid (_):=a8;have ne8:∀ j,(j<W4.heap.size\/N5<=j)->some j≠(Value.slice o1 os.length c1).ownBlock:=(fun j hj h=>by have:=LO.out j h.symm;omega);have q8:=(qbt (zY (show Below w7.heap.size w7 _ by go_grown)) (Value.slice o1 os.length c1).ownBlock).trans g8;have v3:=qhn q8 (b:=N3) l71 (ne8 _ (.inl zX));have v5:=qhn q8 (b:=N5) l72 (ne8 _ (.inr (nA _)));have v1:=qhn q8 (b:=w.heap.size+1) l73 (ne8 _ (.inl (by omega)));have s0:=(v3.1 0).trans t0;have s1:=(v3.1 1).trans t1;have s2:=(v3.1 2).trans t2;have s3:=(v3.1 3).trans t3;have s4:=(v3.1 4).trans t4;have s5:=(v5.1 0).trans t5;have s6:=(v5.1 1).trans t6;have s7:=(v5.1 2).trans t7;have s8:=(v5.1 3).trans t8;have s9:=(v5.1 4).trans t9;have s10:=(v5.1 5).trans t10;have s11:=(v5.1 6).trans t11;have s12:=(v1.1 0).trans t12;have s13:=(v1.1 1).trans t13;have s14:=(v1.1 2).trans t14;have hc8:=fun b o hb hn=>(qhn g8 (b:=b) hb (ne8 _ (.inr hn))).1 o;have hf8:=fun b o hb hn=>(qhn g8 (b:=b) hb (ne8 _ (.inr hn))).2 o;have N8:Hid (OwnI w8 W4.heap.size (.slice o2 os'.length c2) os'):=n8;have M8:Hid (OwnI w8 W4.heap.size (.slice o1 os.length c1) os):=m8;have G8:Hid (w7.grownBy w8 (Value.slice o1 os.length c1).ownBlock):=q8;clear n8 m8 g8 q8 a8 v3 v5 v1 ne8))
  all_goals
   go_wp2_with fail
   go_meet
   case rel=>
    have K8:∀ j,j<W6.heap.size->(j<W4.heap.size\/N5<=j)->w8.heap[j]? = W6.heap[j]?:=fun j h1 h2=>(G8.block j (by have:=Q7.size;omega) (fun h=>by have:=LO.out j h.symm;omega)).trans (Q7.block j h1);have X8:=X6.kept (w':=w8) fun j h1 h2=>K8 j (by omega) (.inl (by omega));have Y8:=Y6.kept (w':=w8) (K8 N5 z6 (.inr (nA _)));have B8:Below w.heap.size w w8:=(B6.trans (Q7.mono B6.size)).trans (qim G8.out (fun j hj=>by have:=LO.out j hj;omega) (by have:=(B6.trans (Q7.mono B6.size)).size;omega));have zz8:w7.heap.size<=w8.heap.size:=G8.size
    first
    | (refine ⟨w8.heap.size, by with_reducible rfl, ?_⟩
       exact qgv.of_alloc X8 Y8 N8.out M8.out B8 _)
    | (refine ⟨w7.heap.size, by with_reducible rfl, ?_⟩
       have nM:∀ j,(Value.slice o1 os.length c1).ownBlock=some j->j≠w7.heap.size:=fun j hj=>by have:=LO.out j hj;omega
       exact qgv.of_put X8 Y8 N8.out M8.out B8 (by omega) (by omega) ⟨by rw [hc8 _ _ (by simp) l75]; simp, by rw [hc8 _ _ (by simp) l75]; simp, by rw [hc8 _ _ (by simp) l75]; simp, by rw [hc8 _ _ (by simp) l75]; simp, by rw [hc8 _ _ (by simp) l75]; simp, by rw [hc8 _ _ (by simp) l75]; simp, by rw [hc8 _ _ (by simp) l75]; simp⟩ nM (fun j hj => by
       rcases A8.out j hj with h | h
       ·exact nM j h
       ·omega))
    | (refine ⟨W6.heap.size, by with_reducible rfl, ?_⟩
       have nM:∀ j,(Value.slice o1 os.length c1).ownBlock=some j->j≠W6.heap.size:=fun j hj=>by have:=LO.out j hj;omega
       exact qgv.of_put X8 Y8 N8.out M8.out B8 (by omega) (by omega) ⟨by rw [hc8 _ _ (by simpa using l74) z6', hc7 _ _ (by simp)]; simp, by rw [hc8 _ _ (by simpa using l74) z6', hc7 _ _ (by simp)]; simp, by rw [hc8 _ _ (by simpa using l74) z6', hc7 _ _ (by simp)]; simp, by rw [hc8 _ _ (by simpa using l74) z6', hc7 _ _ (by simp)]; simp, by rw [hc8 _ _ (by simpa using l74) z6', hc7 _ _ (by simp)]; simp, by rw [hc8 _ _ (by simpa using l74) z6', hc7 _ _ (by simp)]; simp, by rw [hc8 _ _ (by simpa using l74) z6', hc7 _ _ (by simp)]; simp⟩ nM (fun j hj => by
       rcases A8.out j hj with h | h
       ·exact nM j h
       ·omega))
 case rest=>
  obtain ⟨N,rfl,HA⟩:=hcut;obtain ⟨XC,YC,⟨o2,c2,ZC,NC⟩,MC,BC⟩:=HA.out;have HXC:Hid (qa0 wc w.heap.size (.int .i64 k) (.slice ra 4 rc) (.slice oa os.length oc) (.int .i64 0) ek eq ev):=XC;have HNC:Hid (OwnI wc W4.heap.size (.slice o2 os'.length c2) os'):=NC;have HMC:Hid (OwnI wc W4.heap.size (.slice o1 os.length c1) os):=MC;have HBC:Hid (Below w.heap.size w wc):=BC;have zC:W4.heap.size<=wc.heap.size:=by have:=YC.lt;omega
  clear HA XC NC MC BC i0 i1 i2 i3 i4 j0 j1 j2 j3 j4 j5 j6 e0 e1 e2 X6 Y6 B6 O6;obtain ⟨j0,j1,j2,j3,j4,j5,j6⟩:=YC;obtain ⟨i0,i1,i2,i3,i4,i5,i6⟩:=ZC;go_wp2_with fail
  refine (qqv (k:Int) a1 a2 a3 a4 o1 c1 os 0 p' b1 b2 b3 b4 o2 c2 os' code' len W4.heap.size wc HMC.out HNC.out S HT.out).mono ?_;rintro e w9 ⟨o3,c3,x1,x2,x3,x4,rfl,hrs,o9,b9⟩;have X9:Hid (qa0 w9 w.heap.size (.int .i64 k) (.slice ra 4 rc) (.slice oa os.length oc) (.int .i64 0) ek eq ev):=HXC.bw b9;have B9:Hid (Below w.heap.size w w9):=HBC.trans (b9.mono HBC.size);have O9:Hid (OwnI w9 W4.heap.size (.slice o3 S.os.length c3) S.os):=o9;have z9:W4.heap.size<=w9.heap.size:=zO zC b9.size;have HRS:Hid (S.rs=[x1,x2,x3,x4]):=hrs;clear o9 b9 hrs j0 j1 j2 j3 j4 j5 j6 i0 i1 i2 i3 i4 i5 i6 HXC HNC HMC HBC;go_wp2_with fail
  refine (qvv S.p x1 x2 x3 x4 o3 c3 S.os S.c W4.heap.size w9 z9 O9.out).mono ?_;rintro e w10 ⟨v,rfl,o10,b10⟩;rw [<- HRS.out] at o10;have B10:Hid (Below w.heap.size w w10):=B9.trans (b10.mono B9.size);obtain ⟨-,-,-,-,-,-,-,r0,r1,r2,r3,rf⟩:=X9.bw b10;obtain ⟨ra2,rc2,oa2,oc2,rfl,-,-⟩:=o10.read;have O10:Hid (qag w10 W4.heap.size (stV S.p ra2 S.rs.length rc2 oa2 S.os.length oc2 S.c) S.p S.rs S.os S.c):=o10;clear o10 b10;go_wp2;refine bodyPost_ret (v:=.tuple #[stV S.p ra2 S.rs.length rc2 oa2 S.os.length oc2 S.c,.bool true]) (by simp [results,results113,go_sem,r0,r1,r2,r3]) rfl ⟨_,rfl,?_,?_⟩
  ·exact qag.put4 (B':=W4.heap.size) O10.out (by omega) (by omega)
  ·have:=B10.out
   go_grown
theorem zZ {f : FuncId} {fn : Func} {c : Code} (hf : prog.funcs[f]? = some fn) (hname : (fn.name == "runtime.NumGoroutine") = false:=by kernel_rfl) (hb:fn.body=some c:=by rfl) (args : Array Value) (w : World) :
  (callFunc f args).run prog w=.ok (.enter f args) w:=by
 have h1 : fn.name ≠ "runtime.NumGoroutine" := by simpa using hname
 simp [callFunc,hf,h1,hb]
theorem qa4 {w w':World} {B:Nat} {o1:Option Addr} {c1:Nat} {os:List Int} {p' b1 b2 b3 b4 code':Int} (hO:OwnI w B (.slice o1 os.length c1) os) (hb:Below w.heap.size w w'):
  qwb w B (.slice o1 os.length c1) os p' b1 b2 b3 b4 os code' (.returned (dV p' b1 b2 b3 b4 o1 os.length c1 code')) w':=
 ⟨o1,c1,rfl,hO.bw hb,hO.bw hb,qbt (zY hb) _,fun _ h=>.inl h⟩
theorem qb8 {len k:Nat} {a1 a2 a3 a4:Int} {os:List Int} {jr:Nat} {v:Int} (hn:numB a1=true/\numB a2=true/\numB a3=true/\numB a4=true) (h60:os.length<=60) (hj:jr<4):
  qat len k a1 a2 a3 a4 os (k+1) (set4 a1 a2 a3 a4 jr v).1 (set4 a1 a2 a3 a4 jr v).2.1 (set4 a1 a2 a3 a4 jr v).2.2.1 (set4 a1 a2 a3 a4 jr v).2.2.2 os 0=if numB v=true then goS len k ([a1,a2,a3,a4].set jr v) os 0 else ⟨k,[a1,a2,a3,a4],os,2⟩:=by
 obtain ⟨n1,n2,n3,n4⟩:=hn
 have h1:qc2 ([a1,a2,a3,a4].set jr v)=numB v:=by
  match jr,hj with
  | 0,_=>simp [qc2,allN,n2,n3,n4]
  | 1,_=>simp [qc2,allN,n1,n3,n4]
  | 2,_=>simp [qc2,allN,n1,n2,n4]
  | 3,_=>simp [qc2,allN,n1,n2,n3]
 have h2:¬ (60:Int)<(os.length:Int):=by omega
 unfold qat;rw [qvs _ _ _ _ _ _ hj,h1];cases hv:numB v
 ·simp
 ·by_cases h3:(len:Int)<=(k:Int)+1
  ·have h4:belB ((k:Int)+1) len=false:=by simp [belB];omega
   simp [h2,h4,goS,goP,goC,h3]
  ·have h4:belB ((k:Int)+1) len=true:=by simp [belB];omega
   simp [h2,h4,goS,goP,goC,h3]
theorem qd8 {len k:Nat} {a1 a2 a3 a4:Int} {os os':List Int} (hn:numB a1=true/\numB a2=true/\numB a3=true/\numB a4=true) (h60:os'.length<=60):
  qat len k a1 a2 a3 a4 os (k+1) a1 a2 a3 a4 os' 0=goS len k [a1,a2,a3,a4] os' 0:=by
 obtain ⟨n1,n2,n3,n4⟩:=hn;have h1:qc2 [a1,a2,a3,a4]=true:=by simp [qc2,allN,n1,n2,n3,n4]
 have h2:¬ (60:Int)<(os'.length:Int):=by omega
 unfold qat;rw [h1];by_cases h3:(len:Int)<=(k:Int)+1
 ·have h4:belB ((k:Int)+1) len=false:=by simp [belB];omega
  simp [h2,h4,goS,goP,goC,h3]
 ·have h4:belB ((k:Int)+1) len=true:=by simp [belB];omega
  simp [h2,h4,goS,goP,goC,h3]
theorem qoj {len k:Nat} {a1 a2 a3 a4 p' b1 b2 b3 b4 code':Int} {os os':List Int} (h60:60<os'.length):
  qat len k a1 a2 a3 a4 os p' b1 b2 b3 b4 os' code'=⟨k,[a1,a2,a3,a4],os,2⟩:=by
 unfold qat;rw [nC (.inr (by omega))]
theorem qgp {len k:Nat} {a1 a2 a3 a4 n code':Int} {os:List Int} (hn:numB a1=true/\numB a2=true/\numB a3=true/\numB a4=true) (h60:os.length<=60) (hb:belB n len=true):
  qat len k a1 a2 a3 a4 os n a1 a2 a3 a4 os code'=⟨n,[a1,a2,a3,a4],os,code'⟩:=by
 obtain ⟨n1,n2,n3,n4⟩:=hn;have h1:qc2 [a1,a2,a3,a4]=true:=by simp [qc2,allN,n1,n2,n3,n4]
 have h2:¬ (60:Int)<(os.length:Int):=by omega
 unfold qat;rw [h1,hb];simp [h2]
theorem qy2 (b off len cap k:Nat) (g:Nat->I5) (ra oa:Option Addr) (rc oc:Nat) (a1 a2 a3 a4:Int) (os:List Int) (ek eq ev:Int) (w:World) (jr ja jb:Nat) (hj:(g k).r=jr/\(g k).a=ja/\(g k).b=jb) (j4:jr<4/\ja<4/\jb<4) (hn:numB a1=true/\numB a2=true/\numB a3=true/\numB a4=true) (_hz:∀ j,j<4->numB (zi [a1,a2,a3,a4] j)=true) (hl:(len:Int)<=30) (hb:b<w.heap.size) (hI:qao w b off len g) (h60:os.length<=60) (h1:Sl w ra [a1,a2,a3,a4]) (h2:Sl w oa os) (hk:k<len) (hD:canB (nxK g len k [a1,a2,a3,a4] os 0) (nxP g len k [a1,a2,a3,a4] os 0) (nxW g len k [a1,a2,a3,a4] os 0) ek eq ev=true) (ho:(g k).o=1):
  Calls prog 113 #[.slice (some ⟨b,off,none⟩) len cap,stV k ra 4 rc oa os.length oc 0,evV ek eq ev] w (qdd w (qah len (g k) k [a1,a2,a3,a4] os 0 ev) true):=by
 obtain ⟨hjr,hja,hjb⟩:=hj;obtain ⟨j1,j2,j3⟩:=j4
 have e:qat len k a1 a2 a3 a4 os (k+1) (set4 a1 a2 a3 a4 jr ((g k).n)).1 (set4 a1 a2 a3 a4 jr ((g k).n)).2.1 (set4 a1 a2 a3 a4 jr ((g k).n)).2.2.1 (set4 a1 a2 a3 a4 jr ((g k).n)).2.2.2 os 0=qah len (g k) k [a1,a2,a3,a4] os 0 ev:=by
  rw [qb8 hn h60 j1];simp [qah,ho,qkk,hjr]
 rw [<- e];refine qbk b off len cap k g ra oa rc oc a1 a2 a3 a4 os ek eq ev w 212 (zZ func212) (k+1) (set4 a1 a2 a3 a4 jr ((g k).n)).1 (set4 a1 a2 a3 a4 jr ((g k).n)).2.1 (set4 a1 a2 a3 a4 jr ((g k).n)).2.2.1 (set4 a1 a2 a3 a4 jr ((g k).n)).2.2.2 os 0 (by unfold maxLen;omega) hb hI h60 h1 h2 hk hD (by rw [ho];exact qw7) (fun o1 c1 B wx hB hO=>?_);rw [hjr,hja,hjb];refine (qxi _ _ _ _ _ _ _ _ _ jr ja jb _ _ _ _ _ _ (by omega) (by omega) j1).mono ?_;rintro e w' ⟨rfl,b⟩;exact qa4 hO b
theorem qyz (b off len cap k:Nat) (g:Nat->I5) (ra oa:Option Addr) (rc oc:Nat) (a1 a2 a3 a4:Int) (os:List Int) (ek eq ev:Int) (w:World) (jr ja jb:Nat) (hj:(g k).r=jr/\(g k).a=ja/\(g k).b=jb) (j4:jr<4/\ja<4/\jb<4) (hn:numB a1=true/\numB a2=true/\numB a3=true/\numB a4=true) (_hz:∀ j,j<4->numB (zi [a1,a2,a3,a4] j)=true) (hl:(len:Int)<=30) (hb:b<w.heap.size) (hI:qao w b off len g) (h60:os.length<=60) (h1:Sl w ra [a1,a2,a3,a4]) (h2:Sl w oa os) (hk:k<len) (hD:canB (nxK g len k [a1,a2,a3,a4] os 0) (nxP g len k [a1,a2,a3,a4] os 0) (nxW g len k [a1,a2,a3,a4] os 0) ek eq ev=true) (ho:(g k).o=2):
  Calls prog 113 #[.slice (some ⟨b,off,none⟩) len cap,stV k ra 4 rc oa os.length oc 0,evV ek eq ev] w (qdd w (qah len (g k) k [a1,a2,a3,a4] os 0 ev) true):=by
 obtain ⟨hjr,hja,hjb⟩:=hj;obtain ⟨j1,j2,j3⟩:=j4;have zA:=qbs.mp (_hz ja j2);have zB:=qbs.mp (_hz jb j3);have zM:=qcz (_hz ja j2) (_hz jb j3)
 have e:qat len k a1 a2 a3 a4 os (k+1) (set4 a1 a2 a3 a4 jr (zi [a1,a2,a3,a4] ja+zi [a1,a2,a3,a4] jb)).1 (set4 a1 a2 a3 a4 jr (zi [a1,a2,a3,a4] ja+zi [a1,a2,a3,a4] jb)).2.1 (set4 a1 a2 a3 a4 jr (zi [a1,a2,a3,a4] ja+zi [a1,a2,a3,a4] jb)).2.2.1 (set4 a1 a2 a3 a4 jr (zi [a1,a2,a3,a4] ja+zi [a1,a2,a3,a4] jb)).2.2.2 os 0=qah len (g k) k [a1,a2,a3,a4] os 0 ev:=by
  rw [qb8 hn h60 j1];simp [qah,ho,qkk,hjr,hja,hjb]
 rw [<- e];refine qbk b off len cap k g ra oa rc oc a1 a2 a3 a4 os ek eq ev w 213 (zZ func213) (k+1) (set4 a1 a2 a3 a4 jr (zi [a1,a2,a3,a4] ja+zi [a1,a2,a3,a4] jb)).1 (set4 a1 a2 a3 a4 jr (zi [a1,a2,a3,a4] ja+zi [a1,a2,a3,a4] jb)).2.1 (set4 a1 a2 a3 a4 jr (zi [a1,a2,a3,a4] ja+zi [a1,a2,a3,a4] jb)).2.2.1 (set4 a1 a2 a3 a4 jr (zi [a1,a2,a3,a4] ja+zi [a1,a2,a3,a4] jb)).2.2.2 os 0 (by unfold maxLen;omega) hb hI h60 h1 h2 hk hD (by rw [ho];exact qw8) (fun o1 c1 B wx hB hO=>?_);rw [hjr,hja,hjb];refine (qxf _ _ _ _ _ _ _ _ _ jr ja jb _ _ _ _ _ _ (by omega) (by omega) j1 j2 j3 zA.1 zA.2 zB.1 zB.2 zM.1 zM.2).mono ?_;rintro e w' ⟨rfl,b⟩;exact qa4 hO b
theorem qy3 (b off len cap k:Nat) (g:Nat->I5) (ra oa:Option Addr) (rc oc:Nat) (a1 a2 a3 a4:Int) (os:List Int) (ek eq ev:Int) (w:World) (jr ja jb:Nat) (hj:(g k).r=jr/\(g k).a=ja/\(g k).b=jb) (j4:jr<4/\ja<4/\jb<4) (hn:numB a1=true/\numB a2=true/\numB a3=true/\numB a4=true) (_hz:∀ j,j<4->numB (zi [a1,a2,a3,a4] j)=true) (hl:(len:Int)<=30) (hb:b<w.heap.size) (hI:qao w b off len g) (h60:os.length<=60) (h1:Sl w ra [a1,a2,a3,a4]) (h2:Sl w oa os) (hk:k<len) (hD:canB (nxK g len k [a1,a2,a3,a4] os 0) (nxP g len k [a1,a2,a3,a4] os 0) (nxW g len k [a1,a2,a3,a4] os 0) ek eq ev=true) (ho:(g k).o=3):
  Calls prog 113 #[.slice (some ⟨b,off,none⟩) len cap,stV k ra 4 rc oa os.length oc 0,evV ek eq ev] w (qdd w (qah len (g k) k [a1,a2,a3,a4] os 0 ev) true):=by
 obtain ⟨hjr,hja,hjb⟩:=hj;obtain ⟨j1,j2,j3⟩:=j4;have zA:=qbs.mp (_hz ja j2);have zB:=qbs.mp (_hz jb j3);have zM:=qcz (_hz ja j2) (_hz jb j3)
 have e:qat len k a1 a2 a3 a4 os (k+1) (set4 a1 a2 a3 a4 jr (zi [a1,a2,a3,a4] ja - zi [a1,a2,a3,a4] jb)).1 (set4 a1 a2 a3 a4 jr (zi [a1,a2,a3,a4] ja - zi [a1,a2,a3,a4] jb)).2.1 (set4 a1 a2 a3 a4 jr (zi [a1,a2,a3,a4] ja - zi [a1,a2,a3,a4] jb)).2.2.1 (set4 a1 a2 a3 a4 jr (zi [a1,a2,a3,a4] ja - zi [a1,a2,a3,a4] jb)).2.2.2 os 0=qah len (g k) k [a1,a2,a3,a4] os 0 ev:=by
  rw [qb8 hn h60 j1];simp [qah,ho,qkk,hjr,hja,hjb]
 rw [<- e];refine qbk b off len cap k g ra oa rc oc a1 a2 a3 a4 os ek eq ev w 214 (zZ func214) (k+1) (set4 a1 a2 a3 a4 jr (zi [a1,a2,a3,a4] ja - zi [a1,a2,a3,a4] jb)).1 (set4 a1 a2 a3 a4 jr (zi [a1,a2,a3,a4] ja - zi [a1,a2,a3,a4] jb)).2.1 (set4 a1 a2 a3 a4 jr (zi [a1,a2,a3,a4] ja - zi [a1,a2,a3,a4] jb)).2.2.1 (set4 a1 a2 a3 a4 jr (zi [a1,a2,a3,a4] ja - zi [a1,a2,a3,a4] jb)).2.2.2 os 0 (by unfold maxLen;omega) hb hI h60 h1 h2 hk hD (by rw [ho];exact qw9) (fun o1 c1 B wx hB hO=>?_);rw [hjr,hja,hjb];refine (qxj _ _ _ _ _ _ _ _ _ jr ja jb _ _ _ _ _ _ (by omega) (by omega) j1 j2 j3 zA.1 zA.2 zB.1 zB.2 zM.1 zM.2).mono ?_;rintro e w' ⟨rfl,b⟩;exact qa4 hO b
theorem qy1 (b off len cap k:Nat) (g:Nat->I5) (ra oa:Option Addr) (rc oc:Nat) (a1 a2 a3 a4:Int) (os:List Int) (ek eq ev:Int) (w:World) (jr ja jb:Nat) (hj:(g k).r=jr/\(g k).a=ja/\(g k).b=jb) (j4:jr<4/\ja<4/\jb<4) (hn:numB a1=true/\numB a2=true/\numB a3=true/\numB a4=true) (_hz:∀ j,j<4->numB (zi [a1,a2,a3,a4] j)=true) (hl:(len:Int)<=30) (hb:b<w.heap.size) (hI:qao w b off len g) (h60:os.length<=60) (h1:Sl w ra [a1,a2,a3,a4]) (h2:Sl w oa os) (hk:k<len) (hD:canB (nxK g len k [a1,a2,a3,a4] os 0) (nxP g len k [a1,a2,a3,a4] os 0) (nxW g len k [a1,a2,a3,a4] os 0) ek eq ev=true) (ho:(g k).o=4):
  Calls prog 113 #[.slice (some ⟨b,off,none⟩) len cap,stV k ra 4 rc oa os.length oc 0,evV ek eq ev] w (qdd w (qah len (g k) k [a1,a2,a3,a4] os 0 ev) true):=by
 obtain ⟨hjr,hja,hjb⟩:=hj;obtain ⟨j1,j2,j3⟩:=j4;have zA:=qbs.mp (_hz ja j2);have zB:=qbs.mp (_hz jb j3);have zM:=qcz (_hz ja j2) (_hz jb j3)
 have e:qat len k a1 a2 a3 a4 os (k+1) (set4 a1 a2 a3 a4 jr (zi [a1,a2,a3,a4] ja*zi [a1,a2,a3,a4] jb)).1 (set4 a1 a2 a3 a4 jr (zi [a1,a2,a3,a4] ja*zi [a1,a2,a3,a4] jb)).2.1 (set4 a1 a2 a3 a4 jr (zi [a1,a2,a3,a4] ja*zi [a1,a2,a3,a4] jb)).2.2.1 (set4 a1 a2 a3 a4 jr (zi [a1,a2,a3,a4] ja*zi [a1,a2,a3,a4] jb)).2.2.2 os 0=qah len (g k) k [a1,a2,a3,a4] os 0 ev:=by
  rw [qb8 hn h60 j1];simp [qah,ho,qkk,hjr,hja,hjb]
 rw [<- e];refine qbk b off len cap k g ra oa rc oc a1 a2 a3 a4 os ek eq ev w 215 (zZ func215) (k+1) (set4 a1 a2 a3 a4 jr (zi [a1,a2,a3,a4] ja*zi [a1,a2,a3,a4] jb)).1 (set4 a1 a2 a3 a4 jr (zi [a1,a2,a3,a4] ja*zi [a1,a2,a3,a4] jb)).2.1 (set4 a1 a2 a3 a4 jr (zi [a1,a2,a3,a4] ja*zi [a1,a2,a3,a4] jb)).2.2.1 (set4 a1 a2 a3 a4 jr (zi [a1,a2,a3,a4] ja*zi [a1,a2,a3,a4] jb)).2.2.2 os 0 (by unfold maxLen;omega) hb hI h60 h1 h2 hk hD (by rw [ho];exact qxa) (fun o1 c1 B wx hB hO=>?_);rw [hjr,hja,hjb];refine (qxh _ _ _ _ _ _ _ _ _ jr ja jb _ _ _ _ _ _ (by omega) (by omega) j1 j2 j3 zA.1 zA.2 zB.1 zB.2 zM.1 zM.2).mono ?_;rintro e w' ⟨rfl,b⟩;exact qa4 hO b
theorem qpq (b off len cap k:Nat) (g:Nat->I5) (ra oa:Option Addr) (rc oc:Nat) (a1 a2 a3 a4:Int) (os:List Int) (ek eq ev:Int) (w:World) (jr ja jb:Nat) (hj:(g k).r=jr/\(g k).a=ja/\(g k).b=jb) (j4:jr<4/\ja<4/\jb<4) (hn:numB a1=true/\numB a2=true/\numB a3=true/\numB a4=true) (_hz:∀ j,j<4->numB (zi [a1,a2,a3,a4] j)=true) (hl:(len:Int)<=30) (hb:b<w.heap.size) (hI:qao w b off len g) (h60:os.length<=60) (h1:Sl w ra [a1,a2,a3,a4]) (h2:Sl w oa os) (hk:k<len) (hD:canB (nxK g len k [a1,a2,a3,a4] os 0) (nxP g len k [a1,a2,a3,a4] os 0) (nxW g len k [a1,a2,a3,a4] os 0) ek eq ev=true) (ho:(g k).o=5) (hlt:zi [a1,a2,a3,a4] ja<zi [a1,a2,a3,a4] jb):
  Calls prog 113 #[.slice (some ⟨b,off,none⟩) len cap,stV k ra 4 rc oa os.length oc 0,evV ek eq ev] w (qdd w (qah len (g k) k [a1,a2,a3,a4] os 0 ev) true):=by
 obtain ⟨hjr,hja,hjb⟩:=hj;obtain ⟨j1,j2,j3⟩:=j4
 have e:qat len k a1 a2 a3 a4 os (k+1) (set4 a1 a2 a3 a4 jr (1)).1 (set4 a1 a2 a3 a4 jr (1)).2.1 (set4 a1 a2 a3 a4 jr (1)).2.2.1 (set4 a1 a2 a3 a4 jr (1)).2.2.2 os 0=qah len (g k) k [a1,a2,a3,a4] os 0 ev:=by
  rw [qb8 hn h60 j1];simp [qah,ho,qkk,hjr,hja,hjb,hlt]
 rw [<- e];refine qbk b off len cap k g ra oa rc oc a1 a2 a3 a4 os ek eq ev w 216 (zZ func216) (k+1) (set4 a1 a2 a3 a4 jr (1)).1 (set4 a1 a2 a3 a4 jr (1)).2.1 (set4 a1 a2 a3 a4 jr (1)).2.2.1 (set4 a1 a2 a3 a4 jr (1)).2.2.2 os 0 (by unfold maxLen;omega) hb hI h60 h1 h2 hk hD (by rw [ho];exact qr8) (fun o1 c1 B wx hB hO=>?_);rw [hjr,hja,hjb];refine (ql2 _ _ _ _ _ _ _ _ _ jr ja jb _ _ _ _ _ _ (by omega) (by omega) j1 j2 j3 hlt).mono ?_;rintro e w' ⟨rfl,b⟩;exact qa4 hO b
theorem qsu (b off len cap k:Nat) (g:Nat->I5) (ra oa:Option Addr) (rc oc:Nat) (a1 a2 a3 a4:Int) (os:List Int) (ek eq ev:Int) (w:World) (jr ja jb:Nat) (hj:(g k).r=jr/\(g k).a=ja/\(g k).b=jb) (j4:jr<4/\ja<4/\jb<4) (hn:numB a1=true/\numB a2=true/\numB a3=true/\numB a4=true) (_hz:∀ j,j<4->numB (zi [a1,a2,a3,a4] j)=true) (hl:(len:Int)<=30) (hb:b<w.heap.size) (hI:qao w b off len g) (h60:os.length<=60) (h1:Sl w ra [a1,a2,a3,a4]) (h2:Sl w oa os) (hk:k<len) (hD:canB (nxK g len k [a1,a2,a3,a4] os 0) (nxP g len k [a1,a2,a3,a4] os 0) (nxW g len k [a1,a2,a3,a4] os 0) ek eq ev=true) (ho:(g k).o=5) (hlt:¬ zi [a1,a2,a3,a4] ja<zi [a1,a2,a3,a4] jb):
  Calls prog 113 #[.slice (some ⟨b,off,none⟩) len cap,stV k ra 4 rc oa os.length oc 0,evV ek eq ev] w (qdd w (qah len (g k) k [a1,a2,a3,a4] os 0 ev) true):=by
 obtain ⟨hjr,hja,hjb⟩:=hj;obtain ⟨j1,j2,j3⟩:=j4
 have e:qat len k a1 a2 a3 a4 os (k+1) (set4 a1 a2 a3 a4 jr (0)).1 (set4 a1 a2 a3 a4 jr (0)).2.1 (set4 a1 a2 a3 a4 jr (0)).2.2.1 (set4 a1 a2 a3 a4 jr (0)).2.2.2 os 0=qah len (g k) k [a1,a2,a3,a4] os 0 ev:=by
  rw [qb8 hn h60 j1];simp [qah,ho,qkk,hjr,hja,hjb,hlt]
 rw [<- e];refine qbk b off len cap k g ra oa rc oc a1 a2 a3 a4 os ek eq ev w 216 (zZ func216) (k+1) (set4 a1 a2 a3 a4 jr (0)).1 (set4 a1 a2 a3 a4 jr (0)).2.1 (set4 a1 a2 a3 a4 jr (0)).2.2.1 (set4 a1 a2 a3 a4 jr (0)).2.2.2 os 0 (by unfold maxLen;omega) hb hI h60 h1 h2 hk hD (by rw [ho];exact qr8) (fun o1 c1 B wx hB hO=>?_);rw [hjr,hja,hjb];refine (qos _ _ _ _ _ _ _ _ _ jr ja jb _ _ _ _ _ _ (by omega) (by omega) j1 j2 j3 hlt).mono ?_;rintro e w' ⟨rfl,b⟩;exact qa4 hO b
theorem qx9 (b off len cap k:Nat) (g:Nat->I5) (ra oa:Option Addr) (rc oc:Nat) (a1 a2 a3 a4:Int) (os:List Int) (ek eq ev:Int) (w:World) (jr ja jb:Nat) (hj:(g k).r=jr/\(g k).a=ja/\(g k).b=jb) (j4:jr<4/\ja<4/\jb<4) (hn:numB a1=true/\numB a2=true/\numB a3=true/\numB a4=true) (_hz:∀ j,j<4->numB (zi [a1,a2,a3,a4] j)=true) (hl:(len:Int)<=30) (hb:b<w.heap.size) (hI:qao w b off len g) (h60:os.length<=60) (h1:Sl w ra [a1,a2,a3,a4]) (h2:Sl w oa os) (hk:k<len) (hD:canB (nxK g len k [a1,a2,a3,a4] os 0) (nxP g len k [a1,a2,a3,a4] os 0) (nxW g len k [a1,a2,a3,a4] os 0) ek eq ev=true) (ho:(g k).o=6):
  Calls prog 113 #[.slice (some ⟨b,off,none⟩) len cap,stV k ra 4 rc oa os.length oc 0,evV ek eq ev] w (qdd w (qah len (g k) k [a1,a2,a3,a4] os 0 ev) true):=by
 obtain ⟨hjr,hja,hjb⟩:=hj;obtain ⟨j1,j2,j3⟩:=j4
 have e:qat len k a1 a2 a3 a4 os (k+1) a1 a2 a3 a4 os 0=qah len (g k) k [a1,a2,a3,a4] os 0 ev:=by
  rw [qd8 hn h60];simp [qah,ho]
 rw [<- e];refine qbk b off len cap k g ra oa rc oc a1 a2 a3 a4 os ek eq ev w 217 (zZ func217) (k+1) a1 a2 a3 a4 os 0 (by unfold maxLen;omega) hb hI h60 h1 h2 hk hD (by rw [ho];exact qxb) (fun o1 c1 B wx hB hO=>?_);rw [hjr,hja,hjb];refine (qvx _ _ _ _ _ _ _ _ _ jr ja jb _ _ _ _ _ _ (by omega) (by omega)).mono ?_;rintro e w' ⟨rfl,b⟩;exact qa4 hO b
theorem qya (b off len cap k:Nat) (g:Nat->I5) (ra oa:Option Addr) (rc oc:Nat) (a1 a2 a3 a4:Int) (os:List Int) (ek eq ev:Int) (w:World) (jr ja jb:Nat) (hj:(g k).r=jr/\(g k).a=ja/\(g k).b=jb) (j4:jr<4/\ja<4/\jb<4) (hn:numB a1=true/\numB a2=true/\numB a3=true/\numB a4=true) (_hz:∀ j,j<4->numB (zi [a1,a2,a3,a4] j)=true) (hl:(len:Int)<=30) (hb:b<w.heap.size) (hI:qao w b off len g) (h60:os.length<=60) (h1:Sl w ra [a1,a2,a3,a4]) (h2:Sl w oa os) (hk:k<len) (hD:canB (nxK g len k [a1,a2,a3,a4] os 0) (nxP g len k [a1,a2,a3,a4] os 0) (nxW g len k [a1,a2,a3,a4] os 0) ek eq ev=true) (ho:(g k).o=7) (hv:numB ev=true):
  Calls prog 113 #[.slice (some ⟨b,off,none⟩) len cap,stV k ra 4 rc oa os.length oc 0,evV ek eq ev] w (qdd w (qah len (g k) k [a1,a2,a3,a4] os 0 ev) true):=by
 obtain ⟨hjr,hja,hjb⟩:=hj;obtain ⟨j1,j2,j3⟩:=j4
 have e:qat len k a1 a2 a3 a4 os (k+1) (set4 a1 a2 a3 a4 jr (ev)).1 (set4 a1 a2 a3 a4 jr (ev)).2.1 (set4 a1 a2 a3 a4 jr (ev)).2.2.1 (set4 a1 a2 a3 a4 jr (ev)).2.2.2 os 0=qah len (g k) k [a1,a2,a3,a4] os 0 ev:=by
  rw [qb8 hn h60 j1,nC hv];simp [qah,ho,hjr]
 rw [<- e];refine qbk b off len cap k g ra oa rc oc a1 a2 a3 a4 os ek eq ev w 218 (zZ func218) (k+1) (set4 a1 a2 a3 a4 jr (ev)).1 (set4 a1 a2 a3 a4 jr (ev)).2.1 (set4 a1 a2 a3 a4 jr (ev)).2.2.1 (set4 a1 a2 a3 a4 jr (ev)).2.2.2 os 0 (by unfold maxLen;omega) hb hI h60 h1 h2 hk hD (by rw [ho];exact qxc) (fun o1 c1 B wx hB hO=>?_);rw [hjr,hja,hjb];refine (qvy _ _ _ _ _ _ _ _ _ jr ja jb _ _ _ _ _ _ (by omega) (by omega) j1).mono ?_;rintro e w' ⟨rfl,b⟩;exact qa4 hO b
theorem qwi (b off len cap k:Nat) (g:Nat->I5) (ra oa:Option Addr) (rc oc:Nat) (a1 a2 a3 a4:Int) (os:List Int) (ek eq ev:Int) (w:World) (jr ja jb:Nat) (hj:(g k).r=jr/\(g k).a=ja/\(g k).b=jb) (j4:jr<4/\ja<4/\jb<4) (hn:numB a1=true/\numB a2=true/\numB a3=true/\numB a4=true) (_hz:∀ j,j<4->numB (zi [a1,a2,a3,a4] j)=true) (hl:(len:Int)<=30) (hb:b<w.heap.size) (hI:qao w b off len g) (h60:os.length<=60) (h1:Sl w ra [a1,a2,a3,a4]) (h2:Sl w oa os) (hk:k<len) (hD:canB (nxK g len k [a1,a2,a3,a4] os 0) (nxP g len k [a1,a2,a3,a4] os 0) (nxW g len k [a1,a2,a3,a4] os 0) ek eq ev=true) (ho:(g k).o=8):
  Calls prog 113 #[.slice (some ⟨b,off,none⟩) len cap,stV k ra 4 rc oa os.length oc 0,evV ek eq ev] w (qdd w (qah len (g k) k [a1,a2,a3,a4] os 0 ev) true):=by
 obtain ⟨hjr,hja,hjb⟩:=hj;obtain ⟨j1,j2,j3⟩:=j4
 have e:qat len k a1 a2 a3 a4 os (k+1) a1 a2 a3 a4 (os ++ [ev]) 0=qah len (g k) k [a1,a2,a3,a4] os 0 ev:=by
  by_cases h:os.length=60
  ·rw [qoj (by simp;omega)]
   simp [qah,ho,h]
  ·rw [qd8 hn (by simp;omega)]
   simp [qah,ho,h]
 rw [<- e];refine qbk b off len cap k g ra oa rc oc a1 a2 a3 a4 os ek eq ev w 219 (zZ func219) (k+1) a1 a2 a3 a4 (os ++ [ev]) 0 (by unfold maxLen;omega) hb hI h60 h1 h2 hk hD (by rw [ho];exact qxd) (fun o1 c1 B wx hB hO=>?_);rw [hjr,hja,hjb];refine (qt8 _ _ _ _ _ _ _ os _ jr ja jb _ _ _ _ _ B wx (by omega) (by omega) (by omega) hB hO).mono ?_;rintro e w' ⟨oa',oc',rfl,p1,p2,p3,p4⟩;have e1:(os ++ [ev]).length=os.length+1:=by simp
 unfold qwb;rw [e1];exact ⟨oa',oc',rfl,p1,p2,p3,p4⟩
theorem qx8 (b off len cap k:Nat) (g:Nat->I5) (ra oa:Option Addr) (rc oc:Nat) (a1 a2 a3 a4:Int) (os:List Int) (ek eq ev:Int) (w:World) (jr ja jb:Nat) (hj:(g k).r=jr/\(g k).a=ja/\(g k).b=jb) (j4:jr<4/\ja<4/\jb<4) (hn:numB a1=true/\numB a2=true/\numB a3=true/\numB a4=true) (_hz:∀ j,j<4->numB (zi [a1,a2,a3,a4] j)=true) (hl:(len:Int)<=30) (hb:b<w.heap.size) (hI:qao w b off len g) (h60:os.length<=60) (h1:Sl w ra [a1,a2,a3,a4]) (h2:Sl w oa os) (hk:k<len) (hD:canB (nxK g len k [a1,a2,a3,a4] os 0) (nxP g len k [a1,a2,a3,a4] os 0) (nxW g len k [a1,a2,a3,a4] os 0) ek eq ev=true) (ho:(g k).o=9) (hb9:belB (g k).n len=true):
  Calls prog 113 #[.slice (some ⟨b,off,none⟩) len cap,stV k ra 4 rc oa os.length oc 0,evV ek eq ev] w (qdd w (qah len (g k) k [a1,a2,a3,a4] os 0 ev) true):=by
 obtain ⟨hjr,hja,hjb⟩:=hj;obtain ⟨j1,j2,j3⟩:=j4
 have e:qat len k a1 a2 a3 a4 os (g k).n a1 a2 a3 a4 os 0=qah len (g k) k [a1,a2,a3,a4] os 0 ev:=by
  rw [qgp hn h60 hb9];simp [qah,ho]
 rw [<- e];refine qbk b off len cap k g ra oa rc oc a1 a2 a3 a4 os ek eq ev w 220 (zZ func220) (g k).n a1 a2 a3 a4 os 0 (by unfold maxLen;omega) hb hI h60 h1 h2 hk hD (by rw [ho];exact qxe) (fun o1 c1 B wx hB hO=>?_);rw [hjr,hja,hjb];refine (qor _ _ _ _ _ _ _ _ _ jr ja jb _ _ _ _ _ _ (by omega) (by omega)).mono ?_;rintro e w' ⟨rfl,b⟩;exact qa4 hO b
theorem qpr (b off len cap k:Nat) (g:Nat->I5) (ra oa:Option Addr) (rc oc:Nat) (a1 a2 a3 a4:Int) (os:List Int) (ek eq ev:Int) (w:World) (jr ja jb:Nat) (hj:(g k).r=jr/\(g k).a=ja/\(g k).b=jb) (j4:jr<4/\ja<4/\jb<4) (hn:numB a1=true/\numB a2=true/\numB a3=true/\numB a4=true) (_hz:∀ j,j<4->numB (zi [a1,a2,a3,a4] j)=true) (hl:(len:Int)<=30) (hb:b<w.heap.size) (hI:qao w b off len g) (h60:os.length<=60) (h1:Sl w ra [a1,a2,a3,a4]) (h2:Sl w oa os) (hk:k<len) (hD:canB (nxK g len k [a1,a2,a3,a4] os 0) (nxP g len k [a1,a2,a3,a4] os 0) (nxW g len k [a1,a2,a3,a4] os 0) ek eq ev=true) (ho:(g k).o=10) (hb9:belB (g k).n len=true) (hz0:zi [a1,a2,a3,a4] ja=0):
  Calls prog 113 #[.slice (some ⟨b,off,none⟩) len cap,stV k ra 4 rc oa os.length oc 0,evV ek eq ev] w (qdd w (qah len (g k) k [a1,a2,a3,a4] os 0 ev) true):=by
 obtain ⟨hjr,hja,hjb⟩:=hj;obtain ⟨j1,j2,j3⟩:=j4
 have e:qat len k a1 a2 a3 a4 os (g k).n a1 a2 a3 a4 os 0=qah len (g k) k [a1,a2,a3,a4] os 0 ev:=by
  rw [qgp hn h60 hb9];simp [qah,ho,hja,hz0]
 rw [<- e];refine qbk b off len cap k g ra oa rc oc a1 a2 a3 a4 os ek eq ev w 221 (zZ func221) (g k).n a1 a2 a3 a4 os 0 (by unfold maxLen;omega) hb hI h60 h1 h2 hk hD (by rw [ho];exact qoq) (fun o1 c1 B wx hB hO=>?_);rw [hjr,hja,hjb];refine (ql3 _ _ _ _ _ _ _ _ _ jr ja jb _ _ _ _ _ _ (by omega) (by omega) j2 (by simp [hz0])).mono ?_;rintro e w' ⟨rfl,b⟩;exact qa4 hO b
theorem qsv (b off len cap k:Nat) (g:Nat->I5) (ra oa:Option Addr) (rc oc:Nat) (a1 a2 a3 a4:Int) (os:List Int) (ek eq ev:Int) (w:World) (jr ja jb:Nat) (hj:(g k).r=jr/\(g k).a=ja/\(g k).b=jb) (j4:jr<4/\ja<4/\jb<4) (hn:numB a1=true/\numB a2=true/\numB a3=true/\numB a4=true) (_hz:∀ j,j<4->numB (zi [a1,a2,a3,a4] j)=true) (hl:(len:Int)<=30) (hb:b<w.heap.size) (hI:qao w b off len g) (h60:os.length<=60) (h1:Sl w ra [a1,a2,a3,a4]) (h2:Sl w oa os) (hk:k<len) (hD:canB (nxK g len k [a1,a2,a3,a4] os 0) (nxP g len k [a1,a2,a3,a4] os 0) (nxW g len k [a1,a2,a3,a4] os 0) ek eq ev=true) (ho:(g k).o=10) (hz0:¬ zi [a1,a2,a3,a4] ja=0):
  Calls prog 113 #[.slice (some ⟨b,off,none⟩) len cap,stV k ra 4 rc oa os.length oc 0,evV ek eq ev] w (qdd w (qah len (g k) k [a1,a2,a3,a4] os 0 ev) true):=by
 obtain ⟨hjr,hja,hjb⟩:=hj;obtain ⟨j1,j2,j3⟩:=j4
 have e:qat len k a1 a2 a3 a4 os (k+1) a1 a2 a3 a4 os 0=qah len (g k) k [a1,a2,a3,a4] os 0 ev:=by
  rw [qd8 hn h60];simp [qah,ho,hja,hz0]
 rw [<- e];refine qbk b off len cap k g ra oa rc oc a1 a2 a3 a4 os ek eq ev w 221 (zZ func221) (k+1) a1 a2 a3 a4 os 0 (by unfold maxLen;omega) hb hI h60 h1 h2 hk hD (by rw [ho];exact qoq) (fun o1 c1 B wx hB hO=>?_);rw [hjr,hja,hjb];refine (qot _ _ _ _ _ _ _ _ _ jr ja jb _ _ _ _ _ _ (by omega) (by omega) j2 (by simpa using hz0)).mono ?_;rintro e w' ⟨rfl,b⟩;exact qa4 hO b
theorem qy0 (b off len cap k:Nat) (g:Nat->I5) (ra oa:Option Addr) (rc oc:Nat) (a1 a2 a3 a4:Int) (os:List Int) (ek eq ev:Int) (w:World) (jr ja jb:Nat) (hj:(g k).r=jr/\(g k).a=ja/\(g k).b=jb) (j4:jr<4/\ja<4/\jb<4) (hn:numB a1=true/\numB a2=true/\numB a3=true/\numB a4=true) (_hz:∀ j,j<4->numB (zi [a1,a2,a3,a4] j)=true) (hl:(len:Int)<=30) (hb:b<w.heap.size) (hI:qao w b off len g) (h60:os.length<=60) (h1:Sl w ra [a1,a2,a3,a4]) (h2:Sl w oa os) (hk:k<len) (hD:canB (nxK g len k [a1,a2,a3,a4] os 0) (nxP g len k [a1,a2,a3,a4] os 0) (nxW g len k [a1,a2,a3,a4] os 0) ek eq ev=true) (ho:(g k).o=11):
  Calls prog 113 #[.slice (some ⟨b,off,none⟩) len cap,stV k ra 4 rc oa os.length oc 0,evV ek eq ev] w (qdd w (qah len (g k) k [a1,a2,a3,a4] os 0 ev) true):=by
 obtain ⟨hjr,hja,hjb⟩:=hj;obtain ⟨j1,j2,j3⟩:=j4
 have e:qat len k a1 a2 a3 a4 os k a1 a2 a3 a4 os 1=qah len (g k) k [a1,a2,a3,a4] os 0 ev:=by
  rw [qgp hn h60 (by simp [belB];omega)];simp [qah,ho]
 rw [<- e];refine qbk b off len cap k g ra oa rc oc a1 a2 a3 a4 os ek eq ev w 222 (zZ func222) k a1 a2 a3 a4 os 1 (by unfold maxLen;omega) hb hI h60 h1 h2 hk hD (by rw [ho];exact qvw) (fun o1 c1 B wx hB hO=>?_);rw [hjr,hja,hjb];refine (qxg _ _ _ _ _ _ _ _ _ jr ja jb _ _ _ _ _ _ (by omega) (by omega)).mono ?_;rintro e w' ⟨rfl,b⟩;exact qa4 hO b
theorem qla {x:I5} {len:Nat} (h:qaj x.o x.r x.a x.b x.n len 4=true) (h9:x.o=9\/x.o=10):belB x.n len=true:=by
 simp only [qaj,nH] at h;have h5:=h.2;unfold qbb at h5
 rcases h9 with h9 | h9 <;> (rw [h9] at h5;simp [belB] at h5 ⊢;omega)
theorem qwh (b off len cap:Nat) (g:Nat->I5) (p code:Int) (ra oa:Option Addr) (rc oc:Nat) (rs os:List Int) (ek eq ev:Int) (w:World) (hlen:len<=maxLen) (hb:b<w.heap.size) (hI:qao w b off len g) (hr:rs.length<=1048576) (ho:os.length<=1048576) (h1:Sl w ra rs) (h2:Sl w oa os) (hP:qac g len 4=true):
  Calls prog 113 #[.slice (some ⟨b,off,none⟩) len cap,stV p ra rs.length rc oa os.length oc code,evV ek eq ev] w (qdd w (doS g len p rs os code ek eq ev) (doB g len p rs os code ek eq ev)):=by
 rcases zK (doB g len p rs os code ek eq ev) with hB | hB
 case inr=>
  have hS:doS g len p rs os code ek eq ev=⟨p,rs,os,code⟩:=by
   unfold doS;rw [nB (by rw [hB];decide)]
  rw [hB,hS];exact qx7 b off len cap g p code ra oa rc oc rs os ek eq ev w hlen hb hI hr ho h1 h2 hB hP
 have hR:=qdx hB;obtain ⟨hp,hs,rfl⟩:=qbe hR;obtain ⟨⟨a1,a2,a3,a4,rfl,n1,n2,n3,n4⟩,⟨k,rfl,hk⟩,h60,-⟩:=qco hs
 have hS:doS g len k [a1,a2,a3,a4] os 0 ek eq ev=qah len (g k) k [a1,a2,a3,a4] os 0 ev:=by
  unfold doS;rw [nC hB,nF]
 rw [hB,hS]
 have hl:(len:Int)<=30:=by
  simp only [qac,nH] at hp;have:=hp.2.1;simp [inB] at this;omega
 have hins:=qbw hp hk;obtain ⟨⟨o1,o11⟩,⟨r0,r3⟩,⟨m0,m3⟩,⟨q0,q3⟩⟩:=qce hins;have hn:numB a1=true/\numB a2=true/\numB a3=true/\numB a4=true:=⟨n1,n2,n3,n4⟩
 have hz:∀ j,j<4->numB (zi [a1,a2,a3,a4] j)=true:=fun j hj=>by
  match j,hj with
  | 0,_=>exact n1
  | 1,_=>exact n2
  | 2,_=>exact n3
  | 3,_=>exact n4
 have hj:(g k).r=((g k).r.toNat:Int)/\(g k).a=((g k).a.toNat:Int)/\(g k).b=((g k).b.toNat:Int):=⟨by omega,by omega,by omega⟩
 have j4:(g k).r.toNat<4/\(g k).a.toNat<4/\(g k).b.toNat<4:=⟨by omega,by omega,by omega⟩
 rcases qe8 (g k).o with h | h | h | h | h | h | h | h | h | h | h | h
 ·omega
 ·exact qy2 b off len cap k g ra oa rc oc a1 a2 a3 a4 os ek eq ev w _ _ _ hj j4 hn hz hl hb hI h60 h1 h2 hk hB h
 ·exact qyz b off len cap k g ra oa rc oc a1 a2 a3 a4 os ek eq ev w _ _ _ hj j4 hn hz hl hb hI h60 h1 h2 hk hB h
 ·exact qy3 b off len cap k g ra oa rc oc a1 a2 a3 a4 os ek eq ev w _ _ _ hj j4 hn hz hl hb hI h60 h1 h2 hk hB h
 ·exact qy1 b off len cap k g ra oa rc oc a1 a2 a3 a4 os ek eq ev w _ _ _ hj j4 hn hz hl hb hI h60 h1 h2 hk hB h
 ·by_cases hlt:zi [a1,a2,a3,a4] (g k).a.toNat<zi [a1,a2,a3,a4] (g k).b.toNat
  ·exact qpq b off len cap k g ra oa rc oc a1 a2 a3 a4 os ek eq ev w _ _ _ hj j4 hn hz hl hb hI h60 h1 h2 hk hB h hlt
  ·exact qsu b off len cap k g ra oa rc oc a1 a2 a3 a4 os ek eq ev w _ _ _ hj j4 hn hz hl hb hI h60 h1 h2 hk hB h hlt
 ·exact qx9 b off len cap k g ra oa rc oc a1 a2 a3 a4 os ek eq ev w _ _ _ hj j4 hn hz hl hb hI h60 h1 h2 hk hB h
 ·have hv:numB ev=true:=by
   have hc:=hB;unfold doB nxK at hc;rw [nC hR,nF,h,show evK 7=3 from rfl,qif] at hc;simp only [nH] at hc;exact hc.1.2
  exact qya b off len cap k g ra oa rc oc a1 a2 a3 a4 os ek eq ev w _ _ _ hj j4 hn hz hl hb hI h60 h1 h2 hk hB h hv
 ·exact qwi b off len cap k g ra oa rc oc a1 a2 a3 a4 os ek eq ev w _ _ _ hj j4 hn hz hl hb hI h60 h1 h2 hk hB h
 ·exact qx8 b off len cap k g ra oa rc oc a1 a2 a3 a4 os ek eq ev w _ _ _ hj j4 hn hz hl hb hI h60 h1 h2 hk hB h (qla hins (.inl h))
 ·by_cases hz0:zi [a1,a2,a3,a4] (g k).a.toNat=0
  ·exact qpr b off len cap k g ra oa rc oc a1 a2 a3 a4 os ek eq ev w _ _ _ hj j4 hn hz hl hb hI h60 h1 h2 hk hB h (qla hins (.inr h)) hz0
  ·exact qsv b off len cap k g ra oa rc oc a1 a2 a3 a4 os ek eq ev w _ _ _ hj j4 hn hz hl hb hI h60 h1 h2 hk hB h hz0
 ·exact qy0 b off len cap k g ra oa rc oc a1 a2 a3 a4 os ek eq ev w _ _ _ hj j4 hn hz hl hb hI h60 h1 h2 hk hB h
theorem qea {n:Nat} {p code:Int} {rs os:List Int} (h1:rs.length=4) (h2:allN rs=true) (h3:0<=code/\code<=2) (h4:belB p n=true) (h5:os.length<=60) (h6:allN os=true):qdb n p rs os code=true:=by
 have e:inB code 0 2=true:=by simp [inB];omega
 have e5:((os.length:Int)<=60):=by omega
 simp [qdb,qc2,outB,h1,h2,e,h4,e5,h6]
theorem qrf {xs:List Int} {j:Nat} {v:Int} (h:allN xs=true) (hv:numB v=true):allN (xs.set j v)=true:=by
 unfold allN at h ⊢;rw [List.all_eq_true] at h ⊢;intro x hx
 rcases List.mem_or_eq_of_mem_set hx with h1 | h1
 ·exact h x h1
 ·rw [h1];exact hv
def OkS (len:Nat) (S:S4):Prop:=qdb len S.p S.rs S.os S.c=true
theorem qnh {len k:Nat} {rs os:List Int} (hk:k<len) (h1:rs.length=4) (h2:allN rs=true) (h5:os.length<=60) (h6:allN os=true):OkS len (goS len k rs os 0):=by
 unfold OkS goS goP goC;by_cases h:(len:Int)<=(k:Int)+1
 ·simp only [h,nQ]
  exact qea h1 h2 (by omega) (by simp [belB];omega) h5 h6
 ·simp only [h,if_false]
  exact qea h1 h2 (by omega) (by simp [belB];omega) h5 h6
theorem qrj {g:Nat->I5} {len:Nat} {p:Int} {rs os:List Int} {code ek eq ev:Int} (hB:doB g len p rs os code ek eq ev=true):OkS len (doS g len p rs os code ek eq ev):=by
 have hR:=qdx hB;obtain ⟨hp,hs,rfl⟩:=qbe hR;obtain ⟨⟨a1,a2,a3,a4,rfl,n1,n2,n3,n4⟩,⟨k,rfl,hk⟩,h60,hN⟩:=qco hs
 have hS:doS g len k [a1,a2,a3,a4] os 0 ek eq ev=qah len (g k) k [a1,a2,a3,a4] os 0 ev:=by
  unfold doS;rw [nC hB,nF]
 rw [hS];have hins:=qbw hp hk;obtain ⟨⟨o1,o11⟩,⟨r0,r3⟩,⟨m0,m3⟩,⟨q0,q3⟩⟩:=qce hins;have hA:allN [a1,a2,a3,a4]=true:=by simp [allN,n1,n2,n3,n4]
 have hz:∀ j,j<4->numB (zi [a1,a2,a3,a4] j)=true:=fun j hj=>by
  match j,hj with
  | 0,_=>exact n1
  | 1,_=>exact n2
  | 2,_=>exact n3
  | 3,_=>exact n4
 have hkB:belB (k:Int) len=true:=by simp [belB];omega
 have hc:=hB;unfold doB nxK nxP nxW at hc;rw [nC hR,nC hR,nC hR,nF] at hc
 have v7:(g k).o=7->numB ev=true:=fun h=>by
  rw [h,show evK 7=3 from rfl,qif] at hc;simp only [nH] at hc;exact hc.1.2
 have v8:(g k).o=8->numB ev=true:=fun h=>by
  rw [h,show evK 8=4 from rfl,qeg (by decide) (by decide)] at hc;unfold qeq at hc;simp only [nH,beq_iff_eq] at hc;rw [hc.2.2];exact hz _ (by omega)
 unfold qah
 split
 ·exact qnh hk rfl hA h60 hN
 split
 ·rename_i h7
  exact qnh hk (by simp) (qrf hA (v7 h7)) h60 hN
 split
 ·rename_i h8
  split
  ·exact qea rfl hA (by simp) hkB h60 hN
  ·refine qnh hk rfl hA (by simp;omega) ?_
   unfold allN at hN ⊢;rw [List.all_append,hN];simp [v8 h8]
 split
 ·rename_i h9
  exact qea rfl hA (by simp) (qla hins (.inl h9)) h60 hN
 split
 ·rename_i h10
  split
  ·exact qea rfl hA (by simp) (qla hins (.inr h10)) h60 hN
  ·exact qnh hk rfl hA h60 hN
 split
 ·exact qea rfl hA (by simp) hkB h60 hN
 split
 ·rename_i hv
  exact qnh hk (by simp) (qrf hA hv) h60 hN
 ·exact qea rfl hA (by simp) hkB h60 hN
theorem qhs (w:World):
  Calls prog 224 #[] w fun e w'=>∃ v,e=.returned v/\qag w' w.heap.size v 0 [0,0,0,0] [] 0/\Below w.heap.size w w':=by
 have hmk:∀ w:World,(Instr.makeSlice 28 (.int .i64 4) (.int .i64 4)).run prog w=.ok (sG w.heap.size 4 4) (w.alloc (.cells (madeCells #[.int .i64 0] 4) 3)):=fun w=>qcb 4 (by omega) w;have HM:Hid (∀ w:World,OwnI (w.alloc (.cells (madeCells #[.int .i64 0] 4) 3)) w.heap.size (sG w.heap.size 4 4) [0,0,0,0]):=fun w=>qlh w 4 (by omega)
 go_enter func224,ntmps224
 go_wp2;have hB:w.heap.size<=w.heap.size+1:=by omega
 have hM:=HM.out (w.alloc (oQ1 0 (some ⟨w.heap.size+1,0,none⟩) 4 4 none 0 0 0))
 (try dsimp only [aW] at hM);rw [World.size_alloc] at hM
 refine bodyPost_ret (v:=stV 0 (some ⟨w.heap.size+1,0,none⟩) 4 4 none 0 0 0) (by simp [results,results224,go_sem]) rfl ⟨_,rfl,⟨_,_,rfl,hM.mono hB,World.ownsRow_nil _ _ _ _,fun k _=>by simp [Value.ownBlock]⟩,by go_grown⟩
theorem Tl.widen {w:World} {B C C' N:Nat} {p c:Int} {ra:Option Addr} {rn rc:Nat} {oa:Option Addr} {on oc:Nat} {rs os:List Int} (h:Tl w B C N p c ra rn rc oa on oc rs os) (h1:C<=C') (h2:C'<=w.heap.size):Tl w B C' N p c ra rn rc oa on oc rs os:=
 ⟨h.lo,zL h.hi h1,h2,h.box,h.own,fun k hk=>zL (h.up k hk) h1,h.ne⟩
def newS:S4:=⟨0,[0,0,0,0],[],0⟩
def qeu (g:Nat->I5) (len:Nat) (x:E3) (S:S4):Option S4:=if doB g len S.p S.rs S.os S.c x.k x.q x.v=true then some (doS g len S.p S.rs S.os S.c x.k x.q x.v) else none
def rp (g:Nat->I5) (len:Nat) (h:Nat->E3):Nat->Option S4
 | 0=>some newS
 | k+1=>(rp g len h k).bind (qeu g len (h k))
theorem qvm {g:Nat->I5} {len:Nat} {h:Nat->E3} {k:Nat} (hk:rp g len h k=none):∀ d,rp g len h (k+d)=none
 | 0=>hk
 | d+1=>by
  have:=qvm hk d;show (rp g len h (k+d)).bind _=none;rw [this];rfl
theorem qqt {g:Nat->I5} {len:Nat} {h:Nat->E3} {k m:Nat} (hk:rp g len h k=none) (hm:k<=m):rp g len h m=none:=by
 have:=qvm hk (m - k)
 rwa [show k+(m - k)=m by omega] at this
theorem qvn {g:Nat->I5} {len:Nat} {h:Nat->E3} {k:Nat} {S:S4} (hk:rp g len h k=some S) (hd:doB g len S.p S.rs S.os S.c (h k).k (h k).q (h k).v=true):rp g len h (k+1)=some (doS g len S.p S.rs S.os S.c (h k).k (h k).q (h k).v):=by
 show (rp g len h k).bind _=_;rw [hk];show qeu g len (h k) S=_;unfold qeu;rw [nC hd]
theorem qys {g:Nat->I5} {len:Nat} {h:Nat->E3} {k:Nat} {S:S4} (hk:rp g len h k=some S) (hd:doB g len S.p S.rs S.os S.c (h k).k (h k).q (h k).v=false):rp g len h (k+1)=none:=by
 show (rp g len h k).bind _=_;rw [hk];show qeu g len (h k) S=_;unfold qeu;rw [nB (by rw [hd];decide)]
def resS (o:Option S4):S4:=o.getD ⟨0,[],[],0⟩
theorem qw0 {g:Nat->I5} {len:Nat} (hp:qac g len 4=true):1<=len/\len<=30:=by
 simp only [qac,nH] at hp;have:=hp.2.1;simp [inB] at this;omega
theorem qlr {g:Nat->I5} {len:Nat} (hp:qac g len 4=true):OkS len newS:=by
 have:=qw0 hp;exact qea rfl (by simp [newS,allN,numB,inB]) (by simp [newS]) (by simp [belB,newS];omega) (by simp [newS]) rfl
theorem qr4 {g:Nat->I5} {len:Nat} {S:S4} (hp:qac g len 4=true) (hS:OkS len S) (hc:S.c=0):qcj g len S.p S.rs S.os S.c=true:=by
 unfold OkS at hS;rw [qcj,hp,hS,hc];rfl
theorem qwf {g:Nat->I5} {len:Nat} {S:S4} {k q v:Int} (hc:S.c≠0):doB g len S.p S.rs S.os S.c k q v=false:=by
 rcases zK (doB g len S.p S.rs S.os S.c k q v) with h | h
 ·obtain ⟨-,-,h0⟩:=qbe (qdx h)
  exact absurd h0 hc
 ·exact h
theorem OkS.len {n:Nat} {S:S4} (h:OkS n S):S.rs.length=4/\S.os.length<=60:=by
 obtain ⟨⟨a,b,c,d,e,-⟩,-,h60,-⟩:=qco h;exact ⟨by rw [e];rfl,h60⟩
structure Rl (w wr:World) (R Bs:Nat) (p code:Int) (ra:Option Addr) (rc:Nat) (oa:Option Addr) (oc:Nat) (rs os:List Int):Prop where
 tl:Tl wr (R+1) wr.heap.size Bs p code ra rs.length rc oa os.length oc rs os
 fz:∀ j,wr.frozen? ⟨Bs,j,none⟩=false
 rb:BoxC wr R (.int .i64 0) nS nS (.int .i64 0)
 rf:∀ j,wr.frozen? ⟨R,j,none⟩=false
 be:Below w.heap.size w wr
 hR:R=w.heap.size
theorem Rl.bw {w wr w':World} {R Bs:Nat} {p code:Int} {ra:Option Addr} {rc:Nat} {oa:Option Addr} {oc:Nat} {rs os:List Int} (h:Rl w wr R Bs p code ra rc oa oc rs os) (hb:Below wr.heap.size wr w'):Rl w w' R Bs p code ra rc oa oc rs os:=by
 have zB:Bs<wr.heap.size:=h.tl.hi;have zR:R<wr.heap.size:=zJ wr _ h.rb.1;exact ⟨(h.tl.bw hb).widen hb.size (nA _),fun j=>(zI (hb.block Bs zB)).trans (h.fz j),h.rb.bw hb,fun j=>(zI (hb.block R zR)).trans (h.rf j),h.be.trans (hb.mono h.be.size),h.hR⟩
theorem Rl.next {w w9:World} {R Bs:Nat} {p code:Int} {ra:Option Addr} {rc:Nat} {oa:Option Addr} {oc:Nat} {rs os:List Int} (h:Rl w w9 R Bs p code ra rc oa oc rs os) {B7:Nat} {S:S4} {ra7 oa7:Option Addr} {rc7 oc7:Nat} (o9:qag w9 B7 (stV S.p ra7 S.rs.length rc7 oa7 S.os.length oc7 S.c) S.p S.rs S.os S.c) (hB:Bs<B7):Rl w ((((w9.setCell ⟨Bs,0,none⟩ (.int .i64 S.p)).setCell ⟨Bs,1,none⟩ (.slice ra7 S.rs.length rc7)).setCell ⟨Bs,2,none⟩ (.slice oa7 S.os.length oc7)).setCell ⟨Bs,3,none⟩ (.int .i64 S.c)) R Bs S.p S.c ra7 rc7 oa7 oc7 S.rs S.os:=by
 have hlo:=h.tl.lo;have hhi:=h.tl.hi;have hR:=h.hR;have gz:=qxv w9 Bs (.int .i64 S.p) (.slice ra7 S.rs.length rc7) (.slice oa7 S.os.length oc7) (.int .i64 S.c);have zR:R<w9.heap.size:=zJ w9 _ h.rb.1;have eR:=gz.block R zR (by simp;omega);obtain ⟨r0,r1,r2,r3⟩:=h.rb
 have ht:Tl ((((w9.setCell ⟨Bs,0,none⟩ (.int .i64 S.p)).setCell ⟨Bs,1,none⟩ (.slice ra7 S.rs.length rc7)).setCell ⟨Bs,2,none⟩ (.slice oa7 S.os.length oc7)).setCell ⟨Bs,3,none⟩ (.int .i64 S.c)) (R+1) w9.heap.size Bs S.p S.c ra7 S.rs.length rc7 oa7 S.os.length oc7 S.rs S.os:=by
  refine ⟨hlo,hhi,by simp,h.tl.box.set4 _ _ _ _,o9.put4 hB (by omega),fun j hj=>(o9.lt hj).2,fun hj=>?_⟩;have:=(o9.lt hj).1;omega
 have hbe:Below w.heap.size w9 ((((w9.setCell ⟨Bs,0,none⟩ (.int .i64 S.p)).setCell ⟨Bs,1,none⟩ (.slice ra7 S.rs.length rc7)).setCell ⟨Bs,2,none⟩ (.slice oa7 S.os.length oc7)).setCell ⟨Bs,3,none⟩ (.int .i64 S.c)):=⟨gz.os,gz.tape,gz.output,gz.size,fun k hk=>gz.block k (zL hk h.be.size) (by simp;omega)⟩
 have hfz:∀ j,((((w9.setCell ⟨Bs,0,none⟩ (.int .i64 S.p)).setCell ⟨Bs,1,none⟩ (.slice ra7 S.rs.length rc7)).setCell ⟨Bs,2,none⟩ (.slice oa7 S.os.length oc7)).setCell ⟨Bs,3,none⟩ (.int .i64 S.c)).frozen? ⟨Bs,j,none⟩=false:=fun j=>by
  rw [World.frozen?_setCell,World.frozen?_setCell,World.frozen?_setCell,World.frozen?_setCell];exact h.fz j
 have hrf:∀ j,((((w9.setCell ⟨Bs,0,none⟩ (.int .i64 S.p)).setCell ⟨Bs,1,none⟩ (.slice ra7 S.rs.length rc7)).setCell ⟨Bs,2,none⟩ (.slice oa7 S.os.length oc7)).setCell ⟨Bs,3,none⟩ (.int .i64 S.c)).frozen? ⟨R,j,none⟩=false:=fun j=>by
  rw [World.frozen?_setCell,World.frozen?_setCell,World.frozen?_setCell,World.frozen?_setCell];exact h.rf j
 have hgs:=gz.size;have hrb:BoxC ((((w9.setCell ⟨Bs,0,none⟩ (.int .i64 S.p)).setCell ⟨Bs,1,none⟩ (.slice ra7 S.rs.length rc7)).setCell ⟨Bs,2,none⟩ (.slice oa7 S.os.length oc7)).setCell ⟨Bs,3,none⟩ (.int .i64 S.c)) R (.int .i64 0) nS nS (.int .i64 0):=⟨(zH eR).trans r0,(zH eR).trans r1,(zH eR).trans r2,(zH eR).trans r3⟩
 have hbe2:=h.be.trans hbe;generalize (((w9.setCell ⟨Bs,0,none⟩ (.int .i64 S.p)).setCell ⟨Bs,1,none⟩ (.slice ra7 S.rs.length rc7)).setCell ⟨Bs,2,none⟩ (.slice oa7 S.os.length oc7)).setCell ⟨Bs,3,none⟩ (.int .i64 S.c)=wz at *;exact ⟨ht.widen hgs (nA _),hfz,hrb,hrf,hbe2,hR⟩
theorem Rl.done {w wr:World} {R Bs:Nat} {p code:Int} {ra:Option Addr} {rc:Nat} {oa:Option Addr} {oc:Nat} {rs os:List Int} (h:Rl w wr R Bs p code ra rc oa oc rs os) (a b c d:Value):Below w.heap.size w ((((wr.setCell ⟨R,0,none⟩ a).setCell ⟨R,1,none⟩ b).setCell ⟨R,2,none⟩ c).setCell ⟨R,3,none⟩ d)/\qag ((((wr.setCell ⟨R,0,none⟩ a).setCell ⟨R,1,none⟩ b).setCell ⟨R,2,none⟩ c).setCell ⟨R,3,none⟩ d) w.heap.size (stV p ra rs.length rc oa os.length oc code) p rs os code:=by
 have hR:=h.hR;have gz:=qxv wr R a b c d;exact ⟨h.be.trans ⟨gz.os,gz.tape,gz.output,gz.size,fun k hk=>gz.block k (zL hk h.be.size) (by simp;omega)⟩,h.tl.own.put4 (Nat.lt_succ_self _) (by omega)⟩
theorem qag.nil (w:World) (B:Nat):qag w B (stV 0 none 0 0 none 0 0 0) 0 [] [] 0:=⟨_,_,rfl,World.ownsRow_nil _ _ _ _,World.ownsRow_nil _ _ _ _,fun k e=>by cases e⟩
theorem qag.dr {w:World} {B:Nat} {v:Value} {p code:Int} {rs os:List Int} (h:qag w B v p rs os code):qag w.drew B v p rs os code:=by
 obtain ⟨vr,vo,e,h1,h2,h3⟩:=h;exact ⟨vr,vo,e,h1.drewN 1,h2.drewN 1,h3⟩
theorem qte (gb n gc:Nat) (ea:Option Addr) (m ec:Nat) (g:Nat->I5) (eh:Nat->E3) (w:World) (hg:gb<w.heap.size) (hI:qao w gb 0 n g) (hE:EvL w ea m eh) (hm:m<=1048576) (hp:qac g n 4=true):
  Calls prog 174 #[.slice (some ⟨gb,0,none⟩) n gc,.slice ea m ec] w (qdd w (resS (rp g n eh m)) (rp g n eh m).isSome):=by
 have HI:Hid (qao w gb 0 n g):=hI;have HE:Hid (EvL w ea m eh):=hE;have HP:Hid (qac g n 4=true):=hp;have hm':(m:Int)<=1048576:=by omega
 clear hI hE hp
 go_enter func174,ntmps174
 go_wp2_with fail
 refine (qhs _).mono ?_;rintro e w2 ⟨v2,rfl,o2,b2⟩;obtain ⟨ra2,rc2,oa2,oc2,rfl,-,-⟩:=o2.read;have bA:=zS w (zQ0);have bB:=zS w2 (oQ1 0 ra2 4 rc2 oa2 0 oc2 0)
 have D2:Hid (Rl w (w2.alloc (oQ1 0 ra2 4 rc2 oa2 0 oc2 0)) w.heap.size w2.heap.size 0 0 ra2 rc2 oa2 oc2 [0,0,0,0] []):=by
  have bC:Below (w.heap.size+1) (w.alloc (zQ0)) (w2.alloc (oQ1 0 ra2 4 rc2 oa2 0 oc2 0)):=by
   have h:=b2.trans (bB.mono b2.size)
   (try dsimp only [aW] at h);rw [World.size_alloc] at h
   exact h
  have z2:w.heap.size+1<=w2.heap.size:=by have:=b2.size;simp at this;exact this
  have eR:=bC.block w.heap.size (by omega)
  have o2':qag w2 (w.heap.size+1) (stV 0 ra2 4 rc2 oa2 0 oc2 0) 0 [0,0,0,0] [] 0:=by
   have h:=o2
   (try dsimp only [aW] at h);rw [World.size_alloc] at h
   exact h
  obtain ⟨r0,r1,r2,r3⟩:=BoxC.new w (.int .i64 0) nS nS (.int .i64 0) 142;refine ⟨(Tl.of_alloc o2' z2 _).widen (by simp) (nA _),fun j=>yA _ _ _ j rfl,⟨(zH eR).trans r0,(zH eR).trans r1,(zH eR).trans r2,(zH eR).trans r3⟩,fun j=>(zI eR).trans (yA _ _ _ j rfl),bA.trans (bC.mono (by omega)),rfl⟩
 clear o2 b2 bA bB;go_wp2_with fail
 generalize w2.alloc (oQ1 0 ra2 4 rc2 oa2 0 oc2 0)=w3 at *;generalize w2.heap.size=Bs at *
 go_loopw [7] (fun i wr=>∃ k:Nat,k<=m/\i=.int .i64 k/\Hid (∃ S ra rc oa oc,rp g n eh k=some S/\OkS n S/\Rl w wr w.heap.size Bs S.p S.c ra rc oa oc S.rs S.os)) (fun i _=>m - (intOf i).toNat)
 case atStart=>exact ⟨0,nD _,rfl,newS,_,_,_,_,rfl,qlr HP.out,D2.out⟩
 case round=>
  clear D2;obtain ⟨k,hk,rfl,HD⟩:=hrel;obtain ⟨S0,ra,rc,oa,oc,hrp,hok,hD⟩:=HD.out;obtain ⟨p,rs,os,code⟩:=S0;dsimp only at hD;have DRl:Hid (Rl w wr w.heap.size Bs p code ra rc oa oc rs os):=hD;have HRP:Hid (rp g n eh k=some ⟨p,rs,os,code⟩/\OkS n ⟨p,rs,os,code⟩):=⟨hrp,hok⟩
  clear HD hD hrp hok;obtain ⟨c0,c1,c2,c3⟩:=DRl.tl.box;obtain ⟨r0,r1,r2,r3⟩:=DRl.rb;have rf:=DRl.rf;have cf:=DRl.fz;have dR:Bs≠w.heap.size:=by have:=DRl.tl.lo;omega
  have dR':w.heap.size≠Bs:=fun e=>dR e.symm;have zB:Bs<wr.heap.size:=DRl.tl.hi;have zR:w.heap.size<wr.heap.size:=by have:=DRl.tl.lo;omega
  by_cases hlt:k<m
  ·have hlt':(k:Int)<(m:Int):=by omega
   rcases zK (code != 0) with tc | tc
   ·have HZ:Hid (rp g n eh m=none):=qqt (qys HRP.1 (qwf (S:=⟨p,rs,os,code⟩) (by simpa using tc))) (by omega)
    go_wp2_with fail
    refine bodyPost_ret (v:=.tuple #[stV 0 none 0 0 none 0 0 0,.bool false]) (by simp [results,results174,go_sem,r0,r1,r2,r3]) rfl ?_;rw [HZ.out];exact ⟨_,rfl,qag.nil _ _,(DRl.done _ _ _ _).1⟩
   ·have hc0:code=0:=by simpa using tc
    subst hc0;have hright:=qr4 (S:=⟨p,rs,os,0⟩) HP.out HRP.2 rfl;dsimp only at hright;obtain ⟨-,⟨pk,hpk,hpn⟩,-,-⟩:=qco (qbe hright).2.1;subst hpk;have HRT:Hid (qcj g n (pk:Int) rs os 0=true):=hright;have hSok:doB g n pk rs os 0 (eh k).k (eh k).q (eh k).v=true->OkS n (doS g n pk rs os 0 (eh k).k (eh k).q (eh k).v):=qrj;have hyes:=qvn (S:=⟨pk,rs,os,0⟩) HRP.1;have hnot:=qys (S:=⟨pk,rs,os,0⟩) HRP.1;dsimp only at hyes hnot;generalize hS:doS g n pk rs os 0 (eh k).k (eh k).q (eh k).v=S at hSok hyes;generalize hT:doB g n pk rs os 0 (eh k).k (eh k).q (eh k).v=T at hSok hyes hnot;have HN:Hid (doS g n pk rs os 0 (eh k).k (eh k).q (eh k).v=S/\doB g n pk rs os 0 (eh k).k (eh k).q (eh k).v=T):=⟨hS,hT⟩
    have HY:Hid ((T=true->rp g n eh (k+1)=some S/\OkS n S)/\(T=false->rp g n eh (k+1)=none)):=⟨fun h=>⟨hyes h,hSok h⟩,hnot⟩
    clear hS hT hSok hyes hnot hright;obtain ⟨eb,eo,rfl,ze,k0,k1,k2⟩:=(HE.bw DRl.be).at hlt;have HEA:Hid (EvAt wr eb eo m eh/\eb<wr.heap.size):=(HE.bw DRl.be).one hlt;have d1:wr.heap.size≠Bs:=by omega
    have d2:wr.heap.size≠eb:=by omega
    go_wp2_with fail
    go_cut [8,9] from 21 to 30 (fun s t wx=>∃ M:Nat,s=.pointer (some ⟨M,0,none⟩)/\t=.bool T/\Hid (Below wr.heap.size wr wx/\Told wx wr.heap.size M S))
    case first=>
     go_region_held3 (fun w'=>w'.cell? ⟨Bs,0,none⟩=some (.int .i64 pk)/\w'.cell? ⟨Bs,1,none⟩=some (.slice ra rs.length rc)/\w'.cell? ⟨Bs,2,none⟩=some (.slice oa os.length oc)/\w'.cell? ⟨Bs,3,none⟩=some (.int .i64 0)/\w'.cell? ⟨eb,eo+k*3,none⟩=some (.int .i64 (eh k).k)/\w'.cell? ⟨eb,eo+k*3+1,none⟩=some (.int .i64 (eh k).q)/\w'.cell? ⟨eb,eo+k*3+2,none⟩=some (.int .i64 (eh k).v)) (go_keep)
      (first
       | (go_at_call 105;refine (qwv gb 0 n gc pk g ra oa rc oc rs os (eh k).k (eh k).q (eh k).v _ (zL hg (DRl.bw (by go_grown)).be.size) (HI.bw (DRl.bw (by go_grown)).be hg) (DRl.bw (by go_grown)).tl.sl.1 (DRl.bw (by go_grown)).tl.sl.2 HRT.out).mono ?_;rintro e w5 hd;rw [HN.1,HN.2] at hd;obtain ⟨v5,rfl,o5,b5⟩:=hd;obtain ⟨ra5,rc5,oa5,oc5,rfl,-,-⟩:=o5.read;have q5:Below wr.heap.size wr w5:=qai (by go_grown) b5 (by simp);obtain ⟨y0,y1,y2,y3⟩:=(DRl.bw q5).tl.box;obtain ⟨y4,y5,y6⟩:=HEA.1.bw q5 HEA.2 k hlt;(try simp only [World.size_alloc,World.size_drew] at o5);have O5:Hid (qag w5 _ (stV S.p ra5 S.rs.length rc5 oa5 S.os.length oc5 S.c) S.p S.rs S.os S.c):=o5;obtain ⟨hc5,hf5⟩:=qap b5;have z5:=b5.size;(try simp only [World.size_alloc,World.size_drew,Nat.add_one_le_iff] at z5);have j5:wr.heap.size<=w5.heap.size:=q5.size;have Q5:Hid (Below wr.heap.size wr w5):=q5;clear o5 b5 q5))
     all_goals
      go_wp2_with fail
      go_meet
      case rel=>
       first
       | (refine ⟨w5.heap.size, by with_reducible rfl, rfl, ?_⟩
          exact ⟨Q5.trans ((zS _ _).mono j5),Told.of_alloc O5.out (by omega) (by omega) _⟩)
       | (refine ⟨wr.heap.size, by with_reducible rfl, rfl, ?_⟩
          exact ⟨(((Q5.setCell (nA _) _).setCell (nA _) _).setCell (nA _) _).setCell (nA _) _,Told.of_put (z0:=.int .i64 0) (z1:=nS) (z2:=nS) (z3:=.int .i64 0) O5.out (by omega) (by omega) (by omega) ⟨by rw [hc5 _ _ (by simp)];simp,by rw [hc5 _ _ (by simp)];simp,by rw [hc5 _ _ (by simp)];simp,by rw [hc5 _ _ (by simp)];simp⟩⟩)
    case rest=>
     obtain ⟨M,rfl,rfl,HM⟩:=hcut;have bG:=HM.1;obtain ⟨ra5,rc5,oa5,oc5,TG⟩:=HM.2.tl;have D6:Hid (Rl w wc w.heap.size Bs pk 0 ra rc oa oc rs os):=DRl.bw bG;have O6:Hid (qag wc wr.heap.size (stV S.p ra5 S.rs.length rc5 oa5 S.os.length oc5 S.c) S.p S.rs S.os S.c):=TG.own;have zM:=TG.lo;clear c0 c1 c2 c3 r0 r1 r2 r3 rf cf k0 k1 k2 HM bG;obtain ⟨c0,c1,c2,c3⟩:=D6.tl.box;obtain ⟨r0,r1,r2,r3⟩:=D6.rb;obtain ⟨n0,n1,n2,n3⟩:=TG.box;have rf:=D6.rf;have cf:=D6.fz;have dN:M≠Bs:=by omega
     have dN':Bs≠M:=by omega
     have dM:M≠w.heap.size:=by omega
     clear TG;cases T
     case false=>
      have HZ:Hid (rp g n eh m=none):=qqt (HY.2 rfl) (by omega);go_wp2_with fail
      refine bodyPost_ret (v:=.tuple #[stV 0 none 0 0 none 0 0 0,.bool false]) (by simp [results,results174,go_sem,r0,r1,r2,r3]) rfl ?_;rw [HZ.out];exact ⟨_,rfl,qag.nil _ _,(D6.done _ _ _ _).1⟩
     case true=>
      have HW:Hid (rp g n eh (k+1)=some S/\OkS n S):=HY.1 rfl;go_wp2;go_roundw
      case rel=>exact ⟨k+1,by omega,by go_num,S,_,_,_,_,HW.1,HW.2,D6.next O6.out zB⟩
      case measure=>simp [intOf];omega
  ·have hkm:k=m:=by omega
   have HZ:Hid (rp g n eh m=some ⟨p,rs,os,code⟩):=by
    have:=HRP.1;rw [hkm] at this;exact this
   go_wp2_with fail
   refine bodyPost_ret (v:=.tuple #[stV p ra rs.length rc oa os.length oc code,.bool true]) (by simp [results,results174,go_sem,r0,r1,r2,r3]) rfl ?_;rw [HZ.out];exact ⟨_,rfl,(DRl.done _ _ _ _).2,(DRl.done _ _ _ _).1⟩
def repO (g:Nat->I5) (n:Nat) (eh:Nat->E3) (m:Nat):Option S4:=if qac g n 4=true/\m<=200 then rp g n eh m else none
theorem qon (gb n gc:Nat) (ea:Option Addr) (m ec:Nat) (g:Nat->I5) (eh:Nat->E3) (w:World) (hn:n<=maxLen) (hg:gb<w.heap.size) (hI:qao w gb 0 n g) (hE:EvL w ea m eh) (hm:m<=1048576):
  Calls prog 121 #[.slice (some ⟨gb,0,none⟩) n gc,.slice ea m ec] w (qdd w (resS (repO g n eh m)) (repO g n eh m).isSome):=by
 have HI:Hid (qao w gb 0 n g):=hI;have HE:Hid (EvL w ea m eh):=hE;have HL:Hid (n<=maxLen):=hn;have hm':(m:Int)<=1048576:=by omega
 clear hI hE hn;have bA:=zS w (zQ0);have BA:Hid (Below w.heap.size w (w.alloc (zQ0))):=bA;have NB:Hid (BoxC (w.alloc (zQ0)) w.heap.size (.int .i64 0) nS nS (.int .i64 0)/\∀ j,(w.alloc (zQ0)).frozen? ⟨w.heap.size,j,none⟩=false):=⟨BoxC.new w _ _ _ _ _,fun j=>yA _ _ _ j rfl⟩
 clear bA
 go_enter func121,ntmps121
 go_wp2_with fail
 have hz:(w.alloc (zQ0)).heap.size=w.heap.size+1:=by simp
 generalize w.alloc (zQ0)=wa at *;refine (qew gb 0 n gc g 4 wa HL.out (zL hg BA.size) (HI.bw BA.out hg)).mono ?_;rintro e w1 ⟨rfl,b1⟩;have zR:w.heap.size<w1.heap.size:=by have:=b1.size;omega
 have N1:Hid (BoxC w1 w.heap.size (.int .i64 0) nS nS (.int .i64 0)/\∀ j,w1.frozen? ⟨w.heap.size,j,none⟩=false):=⟨NB.1.bw b1,fun j=>(zI (b1.block w.heap.size (by omega))).trans (NB.2 j)⟩
 have B1:Hid (Below w.heap.size w w1):=BA.trans (b1.mono BA.size);clear b1 NB BA hz;obtain ⟨⟨r0,r1,r2,r3⟩,rf⟩:=N1.out;have hput:∀ (a b c d:Value),Below w.heap.size w ((((w1.setCell ⟨w.heap.size,0,none⟩ a).setCell ⟨w.heap.size,1,none⟩ b).setCell ⟨w.heap.size,2,none⟩ c).setCell ⟨w.heap.size,3,none⟩ d):=fun a b c d=>(((B1.setCell (nA _) _).setCell (nA _) _).setCell (nA _) _).setCell (nA _) _;have HPut:Hid (∀ (a b c d:Value),Below w.heap.size w ((((w1.setCell ⟨w.heap.size,0,none⟩ a).setCell ⟨w.heap.size,1,none⟩ b).setCell ⟨w.heap.size,2,none⟩ c).setCell ⟨w.heap.size,3,none⟩ d)):=hput;clear hput
 rcases zK (qac g n 4) with tp | tp
 ·by_cases h2:m<=200
  ·have h2':¬ (200:Int)<(m:Int):=by omega
   have HO:Hid (repO g n eh m=rp g n eh m):=by
    show repO g n eh m=rp g n eh m;unfold repO;rw [nC ⟨tp,h2⟩]
   have HP:Hid (qac g n 4=true):=tp;go_wp2_with fail
   refine (qte gb n gc ea m ec g eh w1 (zL hg B1.size) (HI.bw B1.out hg) (HE.bw B1.out) hm HP.out).mono ?_;rintro e w2 hd;rw [<- HO.out] at hd;generalize repO g n eh m=O at *;obtain ⟨v2,rfl,o2,b2⟩:=hd;obtain ⟨ra2,rc2,oa2,oc2,rfl,-,-⟩:=o2.read;have eR:=b2.block w.heap.size zR;have q0:=(zH eR).trans r0;have q1:=(zH eR).trans r1;have q2:=(zH eR).trans r2;have q3:=(zH eR).trans r3;have qf:∀ j,w2.frozen? ⟨w.heap.size,j,none⟩=false:=fun j=>(zI eR).trans (rf j);have B2:Hid (Below w.heap.size w w2):=B1.trans (b2.mono B1.size);have O2:Hid (qag w2 w1.heap.size (stV (resS O).p ra2 (resS O).rs.length rc2 oa2 (resS O).os.length oc2 (resS O).c) (resS O).p (resS O).rs (resS O).os (resS O).c):=o2;clear o2 b2 eR r0 r1 r2 r3 rf;go_wp2;refine bodyPost_ret (v:=.tuple #[stV (resS O).p ra2 (resS O).rs.length rc2 oa2 (resS O).os.length oc2 (resS O).c,.bool O.isSome]) (by simp [results,results121,go_sem,q0,q1,q2,q3]) rfl ⟨_,rfl,?_,?_⟩
   ·exact O2.put4 zR (by omega)
   ·exact (((B2.setCell (nA _) _).setCell (nA _) _).setCell (nA _) _).setCell (nA _) _
  ·have h2':(200:Int)<(m:Int):=by omega
   have HO:Hid (repO g n eh m=none):=by
    show repO g n eh m=none;unfold repO;rw [nB (by omega)]
   go_wp2;refine bodyPost_ret (v:=.tuple #[stV 0 none 0 0 none 0 0 0,.bool false]) (by simp [results,results121,go_sem,r0,r1,r2,r3]) rfl ?_;rw [HO.out];exact ⟨_,rfl,qag.nil _ _,HPut.out _ _ _ _⟩
 ·have HO:Hid (repO g n eh m=none):=by
   show repO g n eh m=none;unfold repO;rw [nB (by rw [tp];simp)]
  go_wp2;refine bodyPost_ret (v:=.tuple #[stV 0 none 0 0 none 0 0 0,.bool false]) (by simp [results,results121,go_sem,r0,r1,r2,r3]) rfl ?_;rw [HO.out];exact ⟨_,rfl,qag.nil _ _,HPut.out _ _ _ _⟩
theorem qr3 (g:Nat->I5) (n:Nat) (eh:Nat->E3) (m:Nat):(resS (repO g n eh m)).rs.length<=1048576/\(resS (repO g n eh m)).os.length<=1048576:=by
 unfold repO
 split
 ·rename_i h
  have hk:∀ k S,rp g n eh k=some S->OkS n S:=by
   intro k
   induction k with
   | zero=>
    intro S hS;simp only [rp,nG] at hS;rw [<- hS];exact qlr h.1
   | succ k ih=>
    intro S hS;simp only [rp] at hS;cases hr:rp g n eh k with
    | none=>rw [hr] at hS;cases hS
    | some S0=>
     rw [hr] at hS;simp only [Option.bind_some,qeu] at hS
     split at hS
     ·rename_i hd
      simp only [nG] at hS;rw [<- hS];exact qrj hd
     ·cases hS
  cases hr:rp g n eh m with
  | none=>simp [resS]
  | some S=>
   have:=OkS.len (hk m S hr);simp only [resS,Option.getD_some];omega
 ·simp [resS]
theorem qdu (w:World):
  Calls prog 242 #[] w fun e w'=>∃ v,e=.returned v/\qag w' w.heap.size v 0 [0,0,0,0] [] 0/\Below w.heap.size w w':=by
 have hmk:∀ w:World,(Instr.makeSlice 28 (.int .i64 4) (.int .i64 4)).run prog w=.ok (sG w.heap.size 4 4) (w.alloc (.cells (madeCells #[.int .i64 0] 4) 3)):=fun w=>qcb 4 (by omega) w;have HM:Hid (∀ w:World,OwnI (w.alloc (.cells (madeCells #[.int .i64 0] 4) 3)) w.heap.size (sG w.heap.size 4 4) [0,0,0,0]):=fun w=>qlh w 4 (by omega)
 go_enter func242,ntmps242
 go_wp2;have hB:w.heap.size<=w.heap.size+1:=by omega
 have hM:=HM.out (w.alloc (oQ1 0 (some ⟨w.heap.size+1,0,none⟩) 4 4 none 0 0 0))
 (try dsimp only [aW] at hM);rw [World.size_alloc] at hM
 refine bodyPost_ret (v:=stV 0 (some ⟨w.heap.size+1,0,none⟩) 4 4 none 0 0 0) (by simp [results,results242,go_sem]) rfl ⟨_,rfl,⟨_,_,rfl,hM.mono hB,World.ownsRow_nil _ _ _ _,fun k _=>by simp [Value.ownBlock]⟩,by go_grown⟩
structure Rn (w wr:World) (A B C gb n gc k:Nat) (p code:Int) (ra:Option Addr) (rc:Nat) (oa:Option Addr) (oc:Nat) (rs os:List Int):Prop where
 la:wr.cell? ⟨A,0,none⟩=some (sG gb n gc)
 tl:Tl wr w.heap.size wr.heap.size B p code ra rs.length rc oa os.length oc rs os
 fb:∀ j,wr.frozen? ⟨B,j,none⟩=false
 ck:wr.cell? ⟨C,0,none⟩=some (.int .i64 k)
 fc:wr.frozen? ⟨C,0,none⟩=false
 ne:A≠B/\C≠B/\A≠C/\w.heap.size<=A/\w.heap.size<=C
 nh:¬ qae (stV p ra rs.length rc oa os.length oc code) A/\¬ qae (stV p ra rs.length rc oa os.length oc code) C
 be:Below w.heap.size w wr
theorem qvp (gb n gc:Nat) (g:Nat->I5) (w:World) (hn:n<=maxLen) (hg:gb<w.heap.size) (hI:qao w gb 0 n g) (hp:qac g n 4=true):
  Calls prog 241 #[.slice (some ⟨gb,0,none⟩) n gc] w fun e w'=>∃ A B C ra rc oa oc,e=.returned (.tuple #[.func (.func 249) #[] #[.pointer (some ⟨A,0,none⟩),.pointer (some ⟨B,0,none⟩),.pointer (some ⟨C,0,none⟩)],.nilIface])/\Rn w w' A B C gb n gc 0 0 0 ra rc oa oc [0,0,0,0] []:=by
 have HI:Hid (qao w gb 0 n g):=hI;have HL:Hid (n<=maxLen):=hn;have HP:Hid (qac g n 4=true):=hp;clear hI hn
 go_enter func241,ntmps241
 go_wp2_with fail
 refine (qda gb 0 n gc g 4 _ HL.out (by simp;omega) (HI.bw (by go_grown) hg)).mono ?_;rintro e w1 ⟨rfl,b1⟩;have B1:Hid (Below w.heap.size w w1):=qai (by go_grown) b1 (by simp);have z1:w.heap.size<w1.heap.size:=by have:=b1.size;simp at this;omega
 have l1:w1.cell? ⟨w.heap.size,0,none⟩=some (sG gb n gc):=by rw [(qap b1).1 _ _ (by simp)];simp
 clear b1;go_wp2_with fail
 refine (qdu _).mono ?_;rintro e w2 ⟨v2,rfl,o2,b2⟩;obtain ⟨ra2,rc2,oa2,oc2,rfl,-,-⟩:=o2.read;have z2:=b2.size;have bz:Below w2.heap.size w2 ((w2.alloc (oQ1 0 ra2 4 rc2 oa2 0 oc2 0)).alloc (.cells #[.int .i64 0] 3)):=by go_grown
 have bq:=zS (w2.alloc (oQ1 0 ra2 4 rc2 oa2 0 oc2 0)) (.cells #[.int .i64 0] 3);have b12:=b2.trans (bz.mono b2.size)
 have HR:Hid (Rn w ((w2.alloc (oQ1 0 ra2 4 rc2 oa2 0 oc2 0)).alloc (.cells #[.int .i64 0] 3)) w.heap.size w2.heap.size (w2.heap.size+1) gb n gc 0 0 0 ra2 rc2 oa2 oc2 [0,0,0,0] []):=by
  have o2':qag w2 w.heap.size (stV 0 ra2 4 rc2 oa2 0 oc2 0) 0 [0,0,0,0] [] 0:=o2.mono (by omega);refine ⟨(zH (b12.block w.heap.size z1)).trans l1,((Tl.of_alloc o2' (by omega) _).bw bq).widen (by simp) (nA _),fun j=>?_,?_,?_,⟨by omega,by omega,by omega,by omega,by omega⟩,⟨fun h=>?_,fun h=>?_⟩,B1.trans (b12.mono B1.size)⟩
  ·rw [zI (bq.block w2.heap.size (by simp))]
   exact yA _ _ _ j rfl
  ·have:=zV (w2.alloc (oQ1 0 ra2 4 rc2 oa2 0 oc2 0)) #[.int .i64 0] 3 0 rfl
   (try dsimp only [aW] at this);rw [World.size_alloc] at this
   exact this
  ·have:=yA (w2.alloc (oQ1 0 ra2 4 rc2 oa2 0 oc2 0)) #[.int .i64 0] 3 0 rfl
   (try dsimp only [aW] at this);rw [World.size_alloc] at this
   exact this
  ·have:=(o2.lt h).1
   omega
  ·have:=(o2.lt h).2
   omega
 clear o2 b2 bz bq b12 l1;go_wp2;exact bodyPost_ret (v:=.tuple #[.func (.func 249) #[] #[.pointer (some ⟨w.heap.size,0,none⟩),.pointer (some ⟨w2.heap.size,0,none⟩),.pointer (some ⟨w2.heap.size+1,0,none⟩)],.nilIface]) (by simp [results,results241,go_sem]) rfl ⟨_,_,_,_,_,_,_,rfl,HR.out⟩
theorem qag.set1 {w:World} {B N:Nat} {v:Value} {p code:Int} {rs os:List Int} (h:qag w B v p rs os code) (hN:N<B) (j:Nat) (u:Value):qag (w.setCell ⟨N,j,none⟩ u) B v p rs os code:=by
 obtain ⟨vr,vo,e,o1,o2,ha⟩:=h;exact ⟨vr,vo,e,o1.setBelow hN _,o2.setBelow hN _,ha⟩
theorem Rn.bw {w wr w':World} {A B C gb n gc k:Nat} {p code:Int} {ra:Option Addr} {rc:Nat} {oa:Option Addr} {oc:Nat} {rs os:List Int} (h:Rn w wr A B C gb n gc k p code ra rc oa oc rs os) (hb:Below wr.heap.size wr w'):Rn w w' A B C gb n gc k p code ra rc oa oc rs os:=
 ⟨(zH (hb.block A (zJ wr _ h.la))).trans h.la,(h.tl.bw hb).widen hb.size (nA _),fun j=>(zI (hb.block B h.tl.hi)).trans (h.fb j),(zH (hb.block C (zJ wr _ h.ck))).trans h.ck,(zI (hb.block C (zJ wr _ h.ck))).trans h.fc,h.ne,h.nh,h.be.trans (hb.mono h.be.size)⟩
theorem Rn.next {w w4:World} {A B C gb n gc k:Nat} {p code:Int} {ra:Option Addr} {rc:Nat} {oa:Option Addr} {oc:Nat} {rs os:List Int} (h:Rn w w4 A B C gb n gc k p code ra rc oa oc rs os) {B7 R1:Nat} {S:S4} {ra7 oa7:Option Addr} {rc7 oc7:Nat} (o:qag w4 B7 (stV S.p ra7 S.rs.length rc7 oa7 S.os.length oc7 S.c) S.p S.rs S.os S.c) (hA:A<B7) (hB:B<B7) (hC:C<B7) (hR:R1<B7) (n1:R1≠A) (n2:R1≠B) (n3:R1≠C) (n4:w.heap.size<=R1) (z7:w.heap.size<=B7):
  Rn w (((((((((w4.setCell ⟨B,0,none⟩ (.int .i64 S.p)).setCell ⟨B,1,none⟩ (.slice ra7 S.rs.length rc7)).setCell ⟨B,2,none⟩ (.slice oa7 S.os.length oc7)).setCell ⟨B,3,none⟩ (.int .i64 S.c)).setCell ⟨C,0,none⟩ (.int .i64 ((k+1:Nat):Int))).setCell ⟨R1,0,none⟩ (.int .i64 S.p)).setCell ⟨R1,1,none⟩ (.slice ra7 S.rs.length rc7)).setCell ⟨R1,2,none⟩ (.slice oa7 S.os.length oc7)).setCell ⟨R1,3,none⟩ (.int .i64 S.c)) A B C gb n gc (k+1) S.p S.c ra7 rc7 oa7 oc7 S.rs S.os:=by
 obtain ⟨e1,e2,e3,e4,e5⟩:=h.ne;have zB:=h.tl.hi;have lB:=h.tl.lo;have o7:qag (((((((((w4.setCell ⟨B,0,none⟩ (.int .i64 S.p)).setCell ⟨B,1,none⟩ (.slice ra7 S.rs.length rc7)).setCell ⟨B,2,none⟩ (.slice oa7 S.os.length oc7)).setCell ⟨B,3,none⟩ (.int .i64 S.c)).setCell ⟨C,0,none⟩ (.int .i64 ((k+1:Nat):Int))).setCell ⟨R1,0,none⟩ (.int .i64 S.p)).setCell ⟨R1,1,none⟩ (.slice ra7 S.rs.length rc7)).setCell ⟨R1,2,none⟩ (.slice oa7 S.os.length oc7)).setCell ⟨R1,3,none⟩ (.int .i64 S.c)) B7 (stV S.p ra7 S.rs.length rc7 oa7 S.os.length oc7 S.c) S.p S.rs S.os S.c:=((((((((o.set1 hB _ _).set1 hB _ _).set1 hB _ _).set1 hB _ _).set1 hC _ _).set1 hR _ _).set1 hR _ _).set1 hR _ _).set1 hR _ _;obtain ⟨b0,b1,b2,b3⟩:=h.tl.box;have la:=h.la;have ck:=h.ck;have dAB:(⟨B,0,none⟩:Addr).block≠(⟨A,0,none⟩:Addr).block:=fun e=>e1 e.symm;refine ⟨?_,⟨lB,by simp;exact zB,nA _,⟨?_,?_,?_,?_⟩,o7.mono z7,fun j hj=>(o7.lt hj).2,fun hj=>?_⟩,fun j=>?_,?_,?_,⟨e1,e2,e3,e4,e5⟩,⟨fun hj=>?_,fun hj=>?_⟩,?_⟩
 ·go_cell
 ·go_cell
 ·go_cell
 ·go_cell
 ·go_cell
 ·have:=(o.lt hj).1
  omega
 ·simp only [World.frozen?_setCell]
  exact h.fb j
 ·go_cell
 ·simp only [World.frozen?_setCell]
  exact h.fc
 ·have:=(o.lt hj).1
  omega
 ·have:=(o.lt hj).1
  omega
 ·exact ((((((((h.be.setCell lB _).setCell lB _).setCell lB _).setCell lB _).setCell e5 _).setCell n4 _).setCell n4 _).setCell n4 _).setCell n4 _
