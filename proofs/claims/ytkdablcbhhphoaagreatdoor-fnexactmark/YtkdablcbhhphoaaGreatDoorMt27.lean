import Derived.Test.YtkdablcbhhphoaaGreatDoorMt25
namespace Go.Proofs.YtkdablcbhhphoaaGreatDoor
open Go.Proofs.Tryz
set_option maxRecDepth 100000
set_option maxHeartbeats 4000000
open Go.ChangeShapes Go.WideShapes Go.ChangeAt Go.RowKit Go.Deep
theorem qol (x:LvIn) (w:World):
  Calls prog 65 #[x.s.v,x.h.v] w (rB w (.bool (pB (x.h.z.Fit x.s.y)))):=by
 have hF:x.h.z.Fit x.s.y ↔ x.h.cn=x.s.pn/\x.h.ol=x.s.wn/\x.h.kn=x.s.wn:=Iff.rfl;by_cases h1:x.h.cn=x.s.pn
 ·by_cases h2:x.h.ol=x.s.wn
  ·by_cases h3:x.h.kn=x.s.wn
   ·rw [qbl (hF.2 ⟨h1,h2,h3⟩)]
    have k1:((x.h.cn:Int) == (x.s.pn:Int))=true:=by simp;omega
    have k2:((x.h.ol:Int) == (x.s.wn:Int))=true:=by simp;omega
    have k3:((x.h.kn:Int) == (x.s.wn:Int))=true:=by simp;omega
    clear h1 h2 h3 hF
    go_enter func65,ntmps65
    go_wp2;go_ret;exact ⟨rfl,by go_grown⟩
   ·rw [qak (fun h=>h3 (hF.1 h).2.2)]
    have k1:((x.h.cn:Int) == (x.s.pn:Int))=true:=by simp;omega
    have k2:((x.h.ol:Int) == (x.s.wn:Int))=true:=by simp;omega
    have k3:((x.h.kn:Int) == (x.s.wn:Int))=false:=by simp;omega
    clear h1 h2 h3 hF
    go_enter func65,ntmps65
    go_wp2;go_ret;exact ⟨rfl,by go_grown⟩
  ·rw [qak (fun h=>h2 (hF.1 h).2.1)]
   have k1:((x.h.cn:Int) == (x.s.pn:Int))=true:=by simp;omega
   have k2:((x.h.ol:Int) == (x.s.wn:Int))=false:=by simp;omega
   clear h1 h2 hF
   go_enter func65,ntmps65
   go_wp2;go_ret;exact ⟨rfl,by go_grown⟩
 ·rw [qak (fun h=>h1 (hF.1 h).1)]
  have k1:((x.h.cn:Int) == (x.s.pn:Int))=false:=by simp;omega
  clear h1 hF
  go_enter func65,ntmps65
  go_wp2;go_ret;exact ⟨rfl,by go_grown⟩
theorem qpt (x:LvIn) (w:World) (hG:LvG w x) (hL:x.Len) (hn:x.h.cn=x.s.hn):
  Calls prog 66 #[x.s.v,.slice x.h.ca x.h.cn x.h.cc] w (rB w (.bool (pB (x.h.z.DrOk x.s.y)))):=by
 have HG:Hid (LvG w x):=hG;have HL:Hid x.Len:=hL;have HN:Hid (x.h.cn=x.s.hn):=hn;have hc':(x.h.cn:Int)<=1048576:=by have:=hL.h.c;omega
 clear hG hL hn
 go_enter func66,ntmps66
 have B0:Hid (Below w.heap.size w (w.alloc (oQ4 x.s.pa x.s.pn x.s.pc x.s.sa x.s.sn x.s.sc x.s.wa x.s.wn x.s.wc x.s.ha x.s.hn x.s.hc))/\BoxC (w.alloc (oQ4 x.s.pa x.s.pn x.s.pc x.s.sa x.s.sn x.s.sc x.s.wa x.s.wn x.s.wc x.s.ha x.s.hn x.s.hc)) w.heap.size (.slice x.s.pa x.s.pn x.s.pc) (.slice x.s.sa x.s.sn x.s.sc) (.slice x.s.wa x.s.wn x.s.wc) (.slice x.s.ha x.s.hn x.s.hc)):=⟨qad _ _,BoxC.new _ _ _ _ _ _⟩
 go_wp2_with fail
 generalize w.alloc (oQ4 x.s.pa x.s.pn x.s.pc x.s.sa x.s.sn x.s.sc x.s.wa x.s.wn x.s.wc x.s.ha x.s.hn x.s.hc)=wA at *
 go_loopw [9] (fun i wr=>∃ j:Nat,j<=x.h.cn/\i=.int .i64 j/\Hid (∀ k,k<j -> -1<=x.h.cH k/\x.h.cH k<=x.s.hL k)/\wr=wA) (fun i _=>x.h.cn - (intOf i).toNat)
 case atStart=>exact ⟨0,nD _,rfl,fun k hk=>by omega,rfl⟩
 case round=>
  obtain ⟨j,hj,rfl,HF,rfl⟩:=hrel;by_cases hlt:j<x.h.cn
  ·have hlt':(j:Int)<(x.h.cn:Int):=by omega
   obtain ⟨b,off,ea,-,c0⟩:=(HG.h.c.bw B0.1).at hlt;have hlh:j<x.s.hn:=by have:=HN.out;omega
   have hlh':(j:Int)<(x.s.hn:Int):=by omega
   obtain ⟨b2,off2,eb,c1⟩:=(HG.s.h.bw B0.1).at hlh;have hll:(x.s.hL j:Int)<=1048576:=by have:=HL.s.h.2 j hlh;omega
   obtain ⟨-,-,-,p3⟩:=B0.2;by_cases h1:x.h.cH j < -1
   ·have HNo:Hid (¬ x.h.z.DrOk x.s.y):=fun h=>by
     have h9:-1<=x.h.cH j:=(h j hlt).1;omega
    rw [eb] at p3;rw [ea];clear HF ea eb;go_wp2;go_ret;exact ⟨qaf (qak HNo.out).symm,B0.1⟩
   ·by_cases h2:x.h.cH j > (x.s.hL j:Int)
    ·have HNo:Hid (¬ x.h.z.DrOk x.s.y):=fun h=>by
      have h9:x.h.cH j<=(x.s.hL j:Int):=(h j hlt).2;omega
     rw [eb] at p3;rw [ea];clear HF ea eb;go_wp2;go_ret;exact ⟨qaf (qak HNo.out).symm,B0.1⟩
    ·have HJ:Hid (-1<=x.h.cH j/\x.h.cH j<=x.s.hL j):=⟨by omega,by omega⟩
     rw [eb] at p3;rw [ea];clear ea eb;go_wp2;go_roundw
     case rel=>
      refine ⟨j+1,by omega,by go_num,fun k hk=>?_,by trivial⟩;by_cases e:k=j
      ·subst e;exact HJ.out
      ·exact HF.out k (by omega)
     case measure=>simp [intOf];omega
  ·have HY:Hid (x.h.z.DrOk x.s.y):=fun p hp=>HF.out p (by have:p<x.h.cn:=hp;omega)
   clear HF;go_wp2;go_ret;exact ⟨qaf (qbl HY.out).symm,B0.1⟩
theorem qmd (x:ShIn) (w:World) (hG:ShG w x) (hL:x.Len) (hn:x.kn=x.ol) (hc:0<x.cn):
  Calls prog 67 #[x.v] w (rB w (.bool (pB x.z.UnOk))):=by
 have HG:Hid (ShG w x):=hG;have HL:Hid x.Len:=hL;have HN:Hid (x.kn=x.ol):=hn;have ho':(x.ol:Int)<=1048576:=by have:=hL.o;omega
 have hc':(x.cn:Int)<=1048576:=by have:=hL.c;omega
 have hcz:((x.cn:Int) == 0)=false:=by simp;omega
 have hcp:0<(x.cn:Int):=by omega
 clear hG hL hn
 go_enter func67,ntmps67
 have B0:Hid (Below w.heap.size w (w.alloc (oQ6 x.on x.ca x.cn x.cc x.oa x.ol x.oc x.ka x.kn x.kc))/\BoxC (w.alloc (oQ6 x.on x.ca x.cn x.cc x.oa x.ol x.oc x.ka x.kn x.kc)) w.heap.size (.bool x.on) (.slice x.ca x.cn x.cc) (.slice x.oa x.ol x.oc) (.slice x.ka x.kn x.kc)):=⟨qad _ _,BoxC.new _ _ _ _ _ _⟩
 go_wp2_with fail
 generalize w.alloc (oQ6 x.on x.ca x.cn x.cc x.oa x.ol x.oc x.ka x.kn x.kc)=wA at *
 go_loopw [9] (fun i wr=>∃ j:Nat,j<=x.ol/\i=.int .i64 j/\Hid (∀ k,k<j->x.cH (k % x.cn) = -1->x.oH k=false/\x.kL k=0)/\wr=wA) (fun i _=>x.ol - (intOf i).toNat)
 case atStart=>exact ⟨0,nD _,rfl,fun k hk=>by omega,rfl⟩
 case round=>
  obtain ⟨j,hj,rfl,HF,rfl⟩:=hrel;by_cases hlt:j<x.ol
  ·have hlt':(j:Int)<(x.ol:Int):=by omega
   obtain ⟨b,off,ea,-,c0⟩:=(HG.o.bw B0.1).at hlt;have hlk:j<x.kn:=by have:=HN.out;omega
   have hlk':(j:Int)<(x.kn:Int):=by omega
   obtain ⟨b2,off2,eb,c1⟩:=(HG.k.bw B0.1).at hlk;have hm:j % x.cn<x.cn:=Nat.mod_lt _ hc;have hm':((j % x.cn:Nat):Int)<(x.cn:Int):=by omega
   have eq2:Int.tmod (j:Int) (x.cn:Int)=((j % x.cn:Nat):Int):=(Int.ofNat_tmod j x.cn).symm;obtain ⟨b3,off3,ec,-,c2⟩:=(HG.c.bw B0.1).at hm;have hll:(x.kL j:Int)<=1048576:=by have:=HL.k.2 j hlk;omega
   obtain ⟨-,p1,-,p3⟩:=B0.2;rw [ec] at p1;rw [eb] at p3
   have HY:Hid (∀ i:Nat,i<j+1->(j=i->x.cH (j % x.cn) = -1->x.oH j=false/\x.kL j=0)->x.cH (i % x.cn) = -1->x.oH i=false/\x.kL i=0):=fun i hi h1 h2=>by
    by_cases e:j=i
    ·subst e;exact h1 rfl h2
    ·exact HF.out i (by omega) h2
   have HNo:Hid (x.cH (j % x.cn) = -1->(x.oH j=true\/0<x.kL j)->¬ x.z.UnOk):=fun h1 h2 h=>by
    obtain ⟨h3,h4⟩:=h j hlt h1;have h3:x.oH j=false:=h3;have h4:x.kL j=0:=h4
    rcases h2 with h2 | h2
    ·rw [h3] at h2;cases h2
    ·omega
   rw [ea];clear ea eb ec hm HF;generalize j % x.cn=m at *;by_cases d1:x.cH m = -1
   ·have d1':(x.cH m == -1)=true:=by simp [d1]
    generalize hq:x.oH j=t at *;cases t
    ·by_cases d2:(x.kL j:Int) > 0
     ·have HNN:Hid (¬ x.z.UnOk):=HNo.out d1 (.inr (by omega))
      clear d1 HY HNo;go_wp2;go_ret;exact ⟨qaf (qak HNN.out).symm,B0.1⟩
     ·have HZ:Hid (x.oH j=false/\x.kL j=0):=⟨hq,by omega⟩
      clear d1 HNo hq;go_wp2;go_roundw
      case rel=>exact ⟨j+1,by omega,by go_num,fun k hk=>HY.out k hk (fun _ _=>⟨rfl,HZ.2⟩),by trivial⟩
      case measure=>simp [intOf];omega
    ·have HNN:Hid (¬ x.z.UnOk):=HNo.out d1 (.inl rfl)
     clear d1 HY HNo;go_wp2;go_ret;exact ⟨qaf (qak HNN.out).symm,B0.1⟩
   ·have d1':(x.cH m == -1)=false:=by simp [d1]
    have HD:Hid (¬ x.cH m = -1):=d1;clear d1 HNo;go_wp2;go_roundw
    case rel=>exact ⟨j+1,by omega,by go_num,fun k hk=>HY.out k hk (fun _ h=>absurd h HD.out),by trivial⟩
    case measure=>simp [intOf];omega
  ·have HY:Hid x.z.UnOk:=fun i hi h=>HF.out i (by have:i<x.ol:=hi;omega) h
   clear HF;go_wp2;go_ret;exact ⟨qaf (qbl HY.out).symm,B0.1⟩
structure qde (w:World) (P:Nat) (v0 v1 v2 v3:Value) (n:Int):Prop where
 l0:w.cell? ⟨P,0,none⟩=some (.int .i32 0)
 l1:w.cell? ⟨P,1,none⟩=some (.int .u32 0)
 s0:w.cell? ⟨P,2,none⟩=some v0
 s1:w.cell? ⟨P,3,none⟩=some v1
 s2:w.cell? ⟨P,4,none⟩=some v2
 s3:w.cell? ⟨P,5,none⟩=some v3
 dr:w.cell? ⟨P,6,none⟩=some (.int .i64 n)
 fz:∀ j,w.frozen? ⟨P,j,none⟩=false
theorem qde.lt {w:World} {P:Nat} {v0 v1 v2 v3:Value} {n:Int} (h:qde w P v0 v1 v2 v3 n):P<w.heap.size:=zJ w _ h.l0
theorem qde.blk {w w':World} {P:Nat} {v0 v1 v2 v3:Value} {n:Int} (h:qde w P v0 v1 v2 v3 n) (hb:w'.heap[P]? = w.heap[P]?):qde w' P v0 v1 v2 v3 n:=by
 have hc:∀ i,w'.cell? ⟨P,i,none⟩=w.cell? ⟨P,i,none⟩:=fun i=>zH hb;exact ⟨(hc _).trans h.l0,(hc _).trans h.l1,(hc _).trans h.s0,(hc _).trans h.s1,(hc _).trans h.s2,(hc _).trans h.s3,(hc _).trans h.dr,fun j=>(zI hb).trans (h.fz j)⟩
theorem qde.bw {w w':World} {P:Nat} {v0 v1 v2 v3:Value} {n:Int} (h:qde w P v0 v1 v2 v3 n) (hb:Below w.heap.size w w'):qde w' P v0 v1 v2 v3 n:=h.blk (hb.block P h.lt)
theorem qde.setD {w:World} {P:Nat} {v0 v1 v2 v3:Value} {n:Int} (h:qde w P v0 v1 v2 v3 n) (m:Int):qde (w.setCell ⟨P,6,none⟩ (.int .i64 m)) P v0 v1 v2 v3 m:=by
 have hc:∀ i,6≠i->(w.setCell ⟨P,6,none⟩ (.int .i64 m)).cell? ⟨P,i,none⟩=w.cell? ⟨P,i,none⟩:=fun i hi=>World.cell?_setCell_other _ _ _ _ fun e=>hi (by injection e);exact ⟨(hc _ (by omega)).trans h.l0,(hc _ (by omega)).trans h.l1,(hc _ (by omega)).trans h.s0,(hc _ (by omega)).trans h.s1,(hc _ (by omega)).trans h.s2,(hc _ (by omega)).trans h.s3,World.cell?_setCell_same _ _ _ h.dr,fun j=>by rw [World.frozen?_setCell];exact h.fz j⟩
theorem qie (a:Addr) (x y:Int) (w:World) (hc:w.cell? a=some (.int .i64 x)) (hz:w.frozen? a=false) (ha:a.spot=none) (hx:0<=x) (hx':x<=4000000) (hy:0<=y) (hy':y<=4000000):
  Calls prog 75 #[.pointer (some a),.int .i64 y] w fun e w'=>e=.returned (.int .i64 (x+y))/\w'=w.setCell a (.int .i64 (x+y)):=by
 obtain ⟨b,off,spot⟩:=a;obtain rfl:spot=none:=ha;have hw:IntKind.i64.wrap (x+y)=x+y:=by rw [IntKind.wrap_i64];omega
 have hadd:=run_call_add (P:=prog) func143 (by kernel_rfl) (by kernel_rfl) (by kernel_rfl) .i64 (by kernel_rfl) (y:=y) (s:=x+y) hc hz (by simp [go_sem,hw]);clear hw
 go_enter func75,ntmps75
 go_wp2;go_ret;exact ⟨rfl,rfl⟩
theorem qg7 (a:Addr) (x:Int) (w:World) (hc:w.cell? a=some (.int .i64 x)) (ha:a.spot=none):
  Calls prog 136 #[.pointer (some a)] w fun e w'=>e=.returned (.int .i64 x)/\w'=w:=by
 obtain ⟨b,off,spot⟩:=a;obtain rfl:spot=none:=ha;have hl:=run_call_load (P:=prog) func192 (by kernel_rfl) (by kernel_rfl) (by kernel_rfl) .i64 (by kernel_rfl) hc
 go_enter func136,ntmps136
 go_wp2;go_ret;exact ⟨rfl,rfl⟩
theorem qfu (x:ShIn) (w:World) (hG:ZiL w x.ca x.cn x.cH) (hL:x.cn<=1048576):
  Calls prog 29 #[x.v] w fun e w'=>∃ P,e=.returned (.pointer (some ⟨P,0,none⟩))/\w.heap.size<=P/\qde w' P (.bool x.on) (.slice x.ca x.cn x.cc) (.slice x.oa x.ol x.oc) (.slice x.ka x.kn x.kc) (cntD x.cH x.cn)/\Below w.heap.size w w':=by
 have HG:Hid (ZiL w x.ca x.cn x.cH):=hG;have hc':(x.cn:Int)<=1048576:=by omega
 clear hG
 go_enter func29,ntmps29
 have X0:Hid (Below w.heap.size w ((w.alloc (oQ6 x.on x.ca x.cn x.cc x.oa x.ol x.oc x.ka x.kn x.kc)).alloc (.cells #[.int .i32 0,.int .u32 0,.bool x.on,.slice x.ca x.cn x.cc,.slice x.oa x.ol x.oc,.slice x.ka x.kn x.kc,.int .i64 0] 123))/\qde ((w.alloc (oQ6 x.on x.ca x.cn x.cc x.oa x.ol x.oc x.ka x.kn x.kc)).alloc (.cells #[.int .i32 0,.int .u32 0,.bool x.on,.slice x.ca x.cn x.cc,.slice x.oa x.ol x.oc,.slice x.ka x.kn x.kc,.int .i64 0] 123)) (w.heap.size+1) (.bool x.on) (.slice x.ca x.cn x.cc) (.slice x.oa x.ol x.oc) (.slice x.ka x.kn x.kc) (cntD x.cH 0:Nat)):=by
  refine ⟨((nE _ _).alloc (nA _) _).alloc (by simp) _,?_⟩;have hs:(w.alloc (oQ6 x.on x.ca x.cn x.cc x.oa x.ol x.oc x.ka x.kn x.kc)).heap.size=w.heap.size+1:=by simp
  exact ⟨zV _ _ _ 0 hs.symm,zV _ _ _ 1 hs.symm,zV _ _ _ 2 hs.symm,zV _ _ _ 3 hs.symm,zV _ _ _ 4 hs.symm,zV _ _ _ 5 hs.symm,zV _ _ _ 6 hs.symm,fun j=>yA _ _ _ j hs.symm⟩
 go_wp2_with fail
 generalize (w.alloc (oQ6 x.on x.ca x.cn x.cc x.oa x.ol x.oc x.ka x.kn x.kc)).alloc (.cells #[.int .i32 0,.int .u32 0,.bool x.on,.slice x.ca x.cn x.cc,.slice x.oa x.ol x.oc,.slice x.ka x.kn x.kc,.int .i64 0] 123)=wA at *
 go_loopw [12] (fun i wr=>∃ j:Nat,j<=x.cn/\i=.int .i64 j/\Hid (Below w.heap.size w wr/\qde wr (w.heap.size+1) (.bool x.on) (.slice x.ca x.cn x.cc) (.slice x.oa x.ol x.oc) (.slice x.ka x.kn x.kc) (cntD x.cH j:Nat))) (fun i _=>x.cn - (intOf i).toNat)
 case atStart=>exact ⟨0,nD _,rfl,X0.out⟩
 case round=>
  clear X0;obtain ⟨j,hj,rfl,HX⟩:=hrel;by_cases hlt:j<x.cn
  ·have hlt':(j:Int)<(x.cn:Int):=by omega
   obtain ⟨b,off,ea,-,c0⟩:=(HG.bw HX.1).at hlt;by_cases d:x.cH j = -1
   ·have d':(x.cH j != -1)=false:=by simp [d]
    have HC:Hid (cntD x.cH (j+1)=cntD x.cH j):=by
     show cntD x.cH (j+1)=cntD x.cH j
     conv=>lhs;unfold cntD
     rw [nC d,nP]
    have EA:Hid (x.ca=some ⟨b,off,none⟩):=ea;rw [ea];clear d ea;go_wp2;go_roundw
    case rel=>exact ⟨j+1,by omega,by go_num,by rw [Hid,<- EA.out,HC.out];exact HX.out⟩
    case measure=>simp [intOf];omega
   ·have d':(x.cH j != -1)=true:=by simp [d]
    have HC:Hid (((cntD x.cH (j+1):Nat):Int)=(cntD x.cH j:Nat)+1/\cntD x.cH j<=1048576):=by
     refine ⟨?_,zO (qpn _ _) (by omega)⟩
     conv=>lhs;unfold cntD
     rw [nB d];omega
    have EA:Hid (x.ca=some ⟨b,off,none⟩):=ea;rw [ea];clear d ea;go_wp2_with fail
    refine (qie ⟨w.heap.size+1,6,none⟩ (cntD x.cH j:Nat) 1 _ HX.2.dr (HX.2.fz 6) rfl (by omega) (by have:=HC.out;omega) (by omega) (by omega)).mono ?_;rintro e w1 ⟨rfl,rfl⟩;rw [<- HC.1];have HX1:Hid (Below w.heap.size w (wr.setCell ⟨w.heap.size+1,6,none⟩ (.int .i64 (cntD x.cH (j+1):Nat)))/\qde (wr.setCell ⟨w.heap.size+1,6,none⟩ (.int .i64 (cntD x.cH (j+1):Nat))) (w.heap.size+1) (.bool x.on) (.slice x.ca x.cn x.cc) (.slice x.oa x.ol x.oc) (.slice x.ka x.kn x.kc) (cntD x.cH (j+1):Nat)):=⟨HX.1.setCell (by simp) _,HX.2.setD _⟩
    generalize wr.setCell ⟨w.heap.size+1,6,none⟩ (.int .i64 (cntD x.cH (j+1):Nat))=wz at *;clear HX HC c0;go_wp2;go_roundw
    case rel=>exact ⟨j+1,by omega,by go_num,by rw [<- EA.out];exact HX1.out⟩
    case measure=>simp [intOf];omega
  ·have hjn:j=x.cn:=by omega
   have HE:Hid (qde wr (w.heap.size+1) (.bool x.on) (.slice x.ca x.cn x.cc) (.slice x.oa x.ol x.oc) (.slice x.ka x.kn x.kc) (cntD x.cH x.cn:Nat)/\Below w.heap.size w wr):=⟨hjn ▸ HX.2,HX.1⟩
   clear HX;go_wp2;refine bodyPost_ret (v:=.pointer (some ⟨w.heap.size+1,0,none⟩)) (by simp [results,results29,go_sem]) rfl ?_;exact ⟨_,rfl,by omega,HE.1,HE.2⟩
theorem qws (P:Nat) (v0 v1 v2 v3:Value) (n:Nat) (w:World) (h:qde w P v0 v1 v2 v3 n):
  Calls prog 68 #[.pointer (some ⟨P,0,none⟩)] w fun e w'=>e=.returned (.bool (decide (0<n)))/\w'=w:=by
 have hc:=h.dr
 go_enter func68,ntmps68
 go_wp2_with fail
 refine (qg7 ⟨P,6,none⟩ n _ hc rfl).mono ?_;rintro e w1 ⟨rfl,rfl⟩;clear h hc;by_cases h0:0<n
 ·have h1:(n:Int) > 0:=by omega
  go_wp2;go_ret;exact ⟨qaf (decide_eq_true h0).symm,rfl⟩
 ·have h1:¬ (n:Int) > 0:=by omega
  go_wp2;go_ret;exact ⟨qaf (decide_eq_false h0).symm,rfl⟩
def LvX (w w1:World) (x:LvIn):Prop:=Below w.heap.size w w1/\BoxH w1 w.heap.size (.slice x.s.pa x.s.pn x.s.pc) (.slice x.s.sa x.s.sn x.s.sc) (.slice x.s.wa x.s.wn x.s.wc) (.slice x.s.ha x.s.hn x.s.hc) (.bool x.h.on) (.slice x.h.ca x.h.cn x.h.cc) (.slice x.h.oa x.h.ol x.h.oc) (.slice x.h.ka x.h.kn x.h.kc)
theorem LvX.bw {w w1 w2:World} {x:LvIn} (h:LvX w w1 x) (hb:Below w1.heap.size w1 w2):LvX w w2 x:=⟨h.1.trans (hb.mono h.1.size),h.2.bw hb⟩
theorem LvX.new (w:World) (x:LvIn) (t:TypeId):LvX w (w.alloc (.cells #[.slice x.s.pa x.s.pn x.s.pc,.slice x.s.sa x.s.sn x.s.sc,.slice x.s.wa x.s.wn x.s.wc,.slice x.s.ha x.s.hn x.s.hc,.bool x.h.on,.slice x.h.ca x.h.cn x.h.cc,.slice x.h.oa x.h.ol x.h.oc,.slice x.h.ka x.h.kn x.h.kc] t)) x:=⟨qad _ _,BoxH.new _ _ _ _ _ _ _ _ _ _⟩
theorem qjj (x:LvIn) (w:World) (hG:LvG w x) (hL:x.Len) (hV:w.cell? ⟨0,0,none⟩=some (.iface 300 (.agg #[.pointer (some ⟨1,269,none⟩)]))):
  Calls prog 25 #[x.v] w (rB w (.bool (pB (LvOk x.s.y x.h.z)))):=by
 have HG:Hid (LvG w x):=hG;have HL:Hid x.Len:=hL;have HV:Hid (w.cell? ⟨0,0,none⟩=some (.iface 300 (.agg #[.pointer (some ⟨1,269,none⟩)]))):=hV;have HV0:Hid (0<w.heap.size):=zJ w _ hV;clear hG hL hV;have X0:Hid (LvX w (w.alloc (oQ7 x.s.pa x.s.pn x.s.pc x.s.sa x.s.sn x.s.sc x.s.wa x.s.wn x.s.wc x.s.ha x.s.hn x.s.hc x.h.on x.h.ca x.h.cn x.h.cc x.h.oa x.h.ol x.h.oc x.h.ka x.h.kn x.h.kc)) x):=LvX.new _ _ _
 go_enter func25,ntmps25
 go_wp2_with fail
 generalize w.alloc (oQ7 x.s.pa x.s.pn x.s.pc x.s.sa x.s.sn x.s.sc x.s.wa x.s.wn x.s.wc x.s.ha x.s.hn x.s.hc x.h.on x.h.ca x.h.cn x.h.cc x.h.oa x.h.ol x.h.oc x.h.ka x.h.kn x.h.kc)=wA at *;refine (qk7 x.s wA (HG.s.bw X0.1) HL.s ((X0.1.cell (p:=⟨0,0,none⟩) HV0.out).trans HV.out)).mono ?_;rintro e w1 ⟨rfl,b1⟩;have X1:Hid (LvX w w1 x):=X0.bw b1;clear b1 X0;generalize ht:x.s.y.okB=T;cases T
 ·have HN:Hid (¬ LvOk x.s.y x.h.z):=fun h=>by
   have:=h.s;rw [ht] at this;cases this
  clear ht;have B1:Hid (Below w.heap.size w w1):=X1.1;clear X1;go_wp2;go_ret;exact ⟨qaf (qak HN.out).symm,B1.out⟩
 have HO:Hid (x.s.y.okB=true):=ht;clear ht;obtain ⟨-,p0,p1,p2,p3,p4,p5,p6,p7⟩:=X1.out;go_wp2_with fail
 clear p0 p1 p2 p3 p4 p5 p6 p7;refine (qol x w1).mono ?_;rintro e w2 ⟨rfl,b2⟩;have X2:Hid (LvX w w2 x):=X1.bw b2;clear b2 X1;by_cases hf:x.h.z.Fit x.s.y
 case neg=>
  rw [qak hf];have HN:Hid (¬ LvOk x.s.y x.h.z):=fun h=>hf h.f;clear hf;have B1:Hid (Below w.heap.size w w2):=X2.1;clear X2;go_wp2;go_ret;exact ⟨qaf (qak HN.out).symm,B1.out⟩
 rw [qbl hf]
 have HF:Hid (x.h.z.Fit x.s.y/\x.h.cn=x.s.hn/\x.h.kn=x.h.ol/\0<x.h.cn):=by
  have h1:=(Sy.ok_of HO.out).cn;have h2:x.h.cn=x.s.pn/\x.h.ol=x.s.wn/\x.h.kn=x.s.wn:=hf;have h3:x.s.hn=x.s.pn:=h1.2.2.1;have h4:1<=x.s.pn:=h1.1.1;exact ⟨hf,by omega,by omega,by omega⟩
 clear hf;obtain ⟨-,p0,p1,p2,p3,p4,p5,p6,p7⟩:=X2.out;go_wp2_with fail
 clear p0 p1 p2 p3 p4 p5 p6 p7;refine (qpt x w2 (HG.bw X2.1) HL.out HF.2.1).mono ?_;rintro e w3 ⟨rfl,b3⟩;have X3:Hid (LvX w w3 x):=X2.bw b3;clear b3 X2;by_cases hd:x.h.z.DrOk x.s.y
 case neg=>
  rw [qak hd];have HN:Hid (¬ LvOk x.s.y x.h.z):=fun h=>hd h.d;clear hd;have B1:Hid (Below w.heap.size w w3):=X3.1;clear X3;go_wp2;go_ret;exact ⟨qaf (qak HN.out).symm,B1.out⟩
 rw [qbl hd];have HD:Hid (x.h.z.DrOk x.s.y):=hd;clear hd;obtain ⟨-,p0,p1,p2,p3,p4,p5,p6,p7⟩:=X3.out;go_wp2_with fail
 clear p0 p1 p2 p3 p4 p5 p6 p7;refine (qmd x.h w3 (HG.h.bw X3.1) HL.h HF.2.2.1 HF.2.2.2).mono ?_;rintro e w4 ⟨rfl,b4⟩;have X4:Hid (LvX w w4 x):=X3.bw b4;clear b4 X3;by_cases hu:x.h.z.UnOk
 case neg=>
  rw [qak hu];have HN:Hid (¬ LvOk x.s.y x.h.z):=fun h=>hu h.u;clear hu;have B1:Hid (Below w.heap.size w w4):=X4.1;clear X4;go_wp2;go_ret;exact ⟨qaf (qak HN.out).symm,B1.out⟩
 rw [qbl hu];have HU:Hid (x.h.z.UnOk):=hu;clear hu;obtain ⟨-,p0,p1,p2,p3,p4,p5,p6,p7⟩:=X4.out;go_wp2_with fail
 clear p0 p1 p2 p3 p4 p5 p6 p7;refine (qfu x.h w4 (HG.h.c.bw X4.1) HL.h.c).mono ?_;rintro e w5 ⟨P,rfl,hP,hp,b5⟩;have HP:Hid (qde w5 P (.bool x.h.on) (.slice x.h.ca x.h.cn x.h.cc) (.slice x.h.oa x.h.ol x.h.oc) (.slice x.h.ka x.h.kn x.h.kc) (cntD x.h.cH x.h.cn:Nat)):=hp;have X5:Hid (LvX w w5 x):=X4.bw b5;clear b5 X4 hP hp;go_wp2_with fail
 refine (qws P _ _ _ _ (cntD x.h.cH x.h.cn) w5 HP.out).mono ?_;rintro e w6 ⟨rfl,e6⟩;subst e6;clear HP;have HC:Hid (LvOk x.s.y x.h.z ↔ ((x.h.on=true ↔ 0<cntD x.h.cH x.h.cn)/\(x.h.on=true\/¬ x.s.y.Marks))):=⟨fun h=>⟨h.o,h.m⟩,fun h=>⟨HO.out,HF.1,HD.out,HU.out,h.1,h.2⟩⟩
 clear HO HF HD HU;generalize hon:x.h.on=on at *;by_cases hc:0<cntD x.h.cH x.h.cn
 ·rw [decide_eq_true hc]
  have hH:Hid (LvOk x.s.y x.h.z ↔ on=true):=by
   have h1:=HC.out;simp only [hc] at h1;refine h1.trans ⟨fun h=>h.1.2 trivial,fun h=>⟨⟨fun _=>trivial,fun _=>h⟩,.inl h⟩⟩
  clear hc HC;obtain ⟨B,p0,p1,p2,p3,p4,p5,p6,p7⟩:=X5.out;have BB:Hid (Below w.heap.size w w6):=B;rw [hon] at p4;clear B X5 hon;cases on
  ·go_wp2
   go_ret;exact ⟨qaf (qak (fun h=>by cases hH.1 h)).symm,BB.out⟩
  ·go_wp2
   go_ret;exact ⟨qaf (qbl (hH.2 (by simp))).symm,BB.out⟩
 ·rw [decide_eq_false hc]
  have hH:Hid (LvOk x.s.y x.h.z ↔ (on=false/\¬ x.s.y.Marks)):=by
   have h1:=HC.out;simp only [hc,iff_false] at h1;refine h1.trans ⟨fun h=>⟨by simpa using h.1,h.2.resolve_left h.1⟩,fun h=>⟨by rw [h.1];simp,.inr h.2⟩⟩
  clear hc HC;obtain ⟨-,p0,p1,p2,p3,p4,p5,p6,p7⟩:=X5.out;rw [hon] at p4;clear hon;cases on
  ·go_wp2_with fail
   clear p0 p1 p2 p3 p4 p5 p6 p7;refine (qnj x.s w6 (HG.s.bw X5.1) HL.s).mono ?_;rintro e w7 ⟨rfl,b7⟩;have BB:Hid (Below w.heap.size w w7):=X5.1.trans (b7.mono X5.1.size);clear b7 X5;by_cases hm:x.s.y.Marks
   ·rw [qbl hm]
    have HN:Hid (¬ LvOk x.s.y x.h.z):=fun h=>(hH.1 h).2 hm;clear hm hH;go_wp2;go_ret;exact ⟨qaf (qak HN.out).symm,BB.out⟩
   ·rw [qak hm]
    have HN:Hid (LvOk x.s.y x.h.z):=hH.2 ⟨by simp,hm⟩;clear hm hH;go_wp2;go_ret;exact ⟨qaf (qbl HN.out).symm,BB.out⟩
  ·have BB:Hid (Below w.heap.size w w6):=X5.1
   clear X5;go_wp2;go_ret;exact ⟨qaf (qak (fun h=>by cases (hH.1 h).1)).symm,BB.out⟩
open Go.Sort
def UpTo (y:Sy) (z:Sh) (j:Nat):Prop:=∀ p,p<j->(-1<=z.cH p/\z.cH p<=y.hL p)/\(z.cH p<0->∀ a,a<y.pn->z.oH (a*y.pn+p)=false/\z.kL (a*y.pn+p)=0)
theorem qme {y:Sy} {z:Sh} (h1:1<=y.pn) (hf:z.Fit y) (hw:y.wn=y.pn*y.pn):UpTo y z y.pn ↔ (z.DrOk y/\z.UnOk):=by
 obtain ⟨f1,f2,f3⟩:=hf;constructor
 ·intro h
  refine ⟨fun p hp=>(h p (by omega)).1,fun i hi hc=>?_⟩
  have hm:i % z.cn<y.pn:=by
   rw [f1];exact Nat.mod_lt _ (by omega)
  have hd:i / z.cn<y.pn:=by
   rw [f1];exact Nat.div_lt_of_lt_mul (by omega)
  have h2:=(h (i % z.cn) hm).2 (by omega) (i / z.cn) hd
  have e:i / z.cn*y.pn+i % z.cn=i:=by
   rw [f1,Nat.mul_comm];exact Nat.div_add_mod i y.pn
  rw [e] at h2;exact h2
 ·rintro ⟨hd,hu⟩ p hp
  refine ⟨hd p (by omega),fun hc a ha=>?_⟩;have h2:=hd p (by omega)
  have hlt:a*y.pn+p<y.pn*y.pn:=by
   have:(a+1)*y.pn<=y.pn*y.pn:=Nat.mul_le_mul_right _ (by omega);rw [Nat.add_mul] at this;omega
  have e:(a*y.pn+p) % z.cn=p:=by
   rw [f1,Nat.add_comm,Nat.add_mul_mod_self_right,Nat.mod_eq_of_lt hp]
  exact hu (a*y.pn+p) (by omega) (by rw [e];omega)
theorem UpTo.next {y:Sy} {z:Sh} {j:Nat} (h:UpTo y z j) (hj:(-1<=z.cH j/\z.cH j<=y.hL j)/\(z.cH j<0->∀ a,a<y.pn->z.oH (a*y.pn+j)=false/\z.kL (a*y.pn+j)=0)):UpTo y z (j+1):=fun p hp=>by
 by_cases e:p=j
 ·subst e;exact hj
 ·exact h p (by omega)
theorem qjv (x:LvIn) (w:World) (hG:LvG w x) (hL:x.Len) (hcap:∀ i,i<x.s.hn->x.s.hL i<=x.s.hC i):
  Calls prog 19 #[x.v] w (rB w (.bool (pB (LvOk x.s.y x.h.z)))):=by
 have HG:Hid (LvG w x):=hG;have HL:Hid x.Len:=hL;have HCP:Hid (∀ i,i<x.s.hn->x.s.hL i<=x.s.hC i):=hcap;have lc:(x.h.cn:Int)<=1048576:=by have:=hL.h.c;omega
 have lo:(x.h.ol:Int)<=1048576:=by have:=hL.h.o;omega
 have lk:(x.h.kn:Int)<=1048576:=by have:=hL.h.k.1;omega
 clear hG hL hcap;have X0:Hid (LvX w (w.alloc (oQ7 x.s.pa x.s.pn x.s.pc x.s.sa x.s.sn x.s.sc x.s.wa x.s.wn x.s.wc x.s.ha x.s.hn x.s.hc x.h.on x.h.ca x.h.cn x.h.cc x.h.oa x.h.ol x.h.oc x.h.ka x.h.kn x.h.kc)) x):=LvX.new _ _ _
 go_enter func19,ntmps19
 go_wp2_with fail
 generalize w.alloc (oQ7 x.s.pa x.s.pn x.s.pc x.s.sa x.s.sn x.s.sc x.s.wa x.s.wn x.s.wc x.s.ha x.s.hn x.s.hc x.h.on x.h.ca x.h.cn x.h.cc x.h.oa x.h.ol x.h.oc x.h.ka x.h.kn x.h.kc)=wA at *;refine (ql1 x.s wA (HG.s.bw X0.1) HL.s HCP.out).mono ?_;rintro e w1 ⟨rfl,b1⟩;have X1:Hid (LvX w w1 x):=X0.bw b1;clear b1 X0;generalize ht:x.s.y.okB=T;cases T
 ·have HN:Hid (¬ LvOk x.s.y x.h.z):=fun h=>by
   have:=h.s;rw [ht] at this;cases this
  clear ht;have B1:Hid (Below w.heap.size w w1):=X1.1;clear X1;go_wp2;go_ret;exact ⟨qaf (qak HN.out).symm,B1.out⟩
 have HO:Hid (x.s.y.okB=true):=ht;have h4:=(Sy.ok_of ht).cn;have hp1:1<=x.s.pn:=h4.1.1;have hp4n:x.s.pn<=4:=h4.1.2;have hp4:(x.s.pn:Int)<=4:=by omega
 have HHN:Hid (x.s.hn=x.s.pn):=h4.2.2.1;have HWN:Hid (x.s.wn=x.s.pn*x.s.pn):=h4.2.2.2;have hw0:0<=(x.s.pn:Int)*(x.s.pn:Int):=Int.mul_nonneg (by omega) (by omega)
 have hw1:(x.s.pn:Int)*(x.s.pn:Int)<=16:=by
  have:=Int.mul_le_mul hp4 hp4 (by omega) (by omega);omega
 clear ht h4;obtain ⟨B1,p0,p1,p2,p3,p4,p5,p6,p7⟩:=X1.out;have BB1:Hid (Below w.heap.size w w1):=B1;clear B1;by_cases hf:x.h.z.Fit x.s.y
 case neg=>
  have HN:Hid (¬ LvOk x.s.y x.h.z):=fun h=>hf h.f;have hq:¬ (x.h.cn=x.s.pn/\x.h.ol=x.s.wn/\x.h.kn=x.s.wn):=hf;clear hf;by_cases q1:x.h.cn=x.s.pn
  ·have t1:((x.h.cn:Int) != (x.s.pn:Int))=false:=by simp [q1]
   by_cases q2:x.h.ol=x.s.wn
   ·have t2:((x.h.ol:Int) != (x.s.pn:Int)*(x.s.pn:Int))=false:=by rw [q2,HWN.out,Int.natCast_mul];simp
    have t3:((x.h.kn:Int) != (x.s.pn:Int)*(x.s.pn:Int))=true:=by
     have:¬ x.h.kn=x.s.wn:=fun h=>hq ⟨q1,q2,h⟩;rw [HWN.out] at this;simp only [bne_iff_ne,ne_eq];intro e;apply this;have e2:(x.h.kn:Int)=((x.s.pn*x.s.pn:Nat):Int):=by rw [e,Int.natCast_mul]
     omega
    clear q1 q2 hq;go_wp2;go_ret;exact ⟨qaf (qak HN.out).symm,BB1.out⟩
   ·have t2:((x.h.ol:Int) != (x.s.pn:Int)*(x.s.pn:Int))=true:=by
     rw [HWN.out] at q2;simp only [bne_iff_ne,ne_eq];intro e;apply q2;have e2:(x.h.ol:Int)=((x.s.pn*x.s.pn:Nat):Int):=by rw [e,Int.natCast_mul]
     omega
    clear q1 q2 hq;go_wp2;go_ret;exact ⟨qaf (qak HN.out).symm,BB1.out⟩
  ·have t1:((x.h.cn:Int) != (x.s.pn:Int))=true:=by simp;omega
   clear q1 hq;go_wp2;go_ret;exact ⟨qaf (qak HN.out).symm,BB1.out⟩
 have HF:Hid (x.h.z.Fit x.s.y/\x.h.cn=x.s.pn/\x.h.ol=x.s.wn/\x.h.kn=x.s.wn):=⟨hf,hf⟩
 have t1:((x.h.cn:Int) != (x.s.pn:Int))=false:=by have:=HF.2.1;simp [this]
 have t2:((x.h.ol:Int) != (x.s.pn:Int)*(x.s.pn:Int))=false:=by rw [HF.2.2.1,HWN.out,Int.natCast_mul];simp
 have t3:((x.h.kn:Int) != (x.s.pn:Int)*(x.s.pn:Int))=false:=by rw [HF.2.2.2,HWN.out,Int.natCast_mul];simp
 clear hf;go_wp2_with fail
 clear t1 t2 t3 p0 p1 p2 p3 p4 p5 p6 p7 hw0 hw1 BB1
 go_loopw [4,5] (fun s i wr=>∃ j:Nat,j<=x.s.pn/\i=.int .i64 j/\s=.bool (decide (0<cntD x.h.cH j))/\Hid (LvX w wr x)/\Hid (UpTo x.s.y x.h.z j)) (fun _ i _=>x.s.pn - (intOf i).toNat)
 case atStart=>exact ⟨0,nD _,rfl,by simp [cntD],X1.out,fun p hp=>by omega⟩
 case round=>
  clear X1;obtain ⟨j,hj,rfl,rfl,HX,HU⟩:=hrel;by_cases hlt:j<x.s.pn
  ·have hlt':(j:Int)<(x.s.pn:Int):=by omega
   have hjc:j<x.h.cn:=by have:=HF.2.1;omega
   have hjc':(j:Int)<(x.h.cn:Int):=by omega
   have hjh:j<x.s.hn:=by have:=HHN.out;omega
   have hjh':(j:Int)<(x.s.hn:Int):=by omega
   have hll:(x.s.hL j:Int)<=1048576:=by have:=HL.s.h.2 j hjh;omega
   obtain ⟨cb,co,ec,-,c0⟩:=(HG.h.c.bw HX.1).at hjc;obtain ⟨hb,ho,eh,ch⟩:=(HG.s.h.bw HX.1).at hjh;obtain ⟨-,p0,p1,p2,p3,p4,p5,p6,p7⟩:=HX.out;rw [ec] at p5;rw [eh] at p3;have EC:Hid (x.h.ca=some ⟨cb,co,none⟩):=ec;clear ec eh
   have HZ:Hid (inB (x.h.cH j) (-1) (x.s.hL j)=true ↔ (-1<=x.h.cH j/\x.h.cH j<=(x.s.hL j:Int))):=by
    show _ ↔ _;simp [inB]
   have q0:=cell_regrown c0;have qh:=cell_regrown ch;have q3:=cell_regrown p3;have q5:=cell_regrown p5;clear c0 ch p0 p1 p2 p3 p4 p5 p6 p7;go_upto_region 8 with fail
   refine wp_region_quiet_below (by kernel_rfl) (by kernel_rfl) ?_
   repeat (quiet_step (first|(go_at_call 20;exact Calls.regrown_same (l1In_any _ _ _ _))))
   refine wpQuiet_nil ?_;intro _ hw';obtain ⟨⟨dd,os⟩,hw''⟩:=hw';subst hw'';have X3:Hid (LvX w (grow (redrawn wr dd) os) x):=HX.bw (below_regrown wr dd os);generalize grow (redrawn wr dd) os=w3 at *;clear q0 qh q3 q5 HX;generalize hT:inB (x.h.cH j) (-1) (x.s.hL j)=T at *;cases T
   ·have HN:Hid (¬ LvOk x.s.y x.h.z):=fun h=>by
     have h1:=HZ.2 (h.d j hjc);cases h1
    have B1:Hid (Below w.heap.size w w3):=X3.1;clear HZ hT X3 HU;go_wp2;go_ret;exact ⟨qaf (qak HN.out).symm,B1.out⟩
   have HR:Hid (-1<=x.h.cH j/\x.h.cH j<=(x.s.hL j:Int)):=HZ.1 rfl;clear HZ hT;obtain ⟨cb',co',ec',-,c0⟩:=(HG.h.c.bw X3.1).at hjc;rw [EC.out] at ec';simp only [nG,Addr.mk.injEq,and_true] at ec';obtain ⟨rfl,rfl⟩:=ec';obtain ⟨-,p0,p1,p2,p3,p4,p5,p6,p7⟩:=X3.out;rw [EC.out] at p5
   have HCN:Hid (decide (0<cntD x.h.cH (j+1))=(decide (0<cntD x.h.cH j) || decide (0<=x.h.cH j))):=by
    have h1:=HR.out;show decide (0<cntD x.h.cH (j+1))=_
    conv=>lhs;unfold cntD
    by_cases e:x.h.cH j = -1
    ·rw [nC e,nP,e]
     simp
    ·rw [nB e]
     have h2:0<=x.h.cH j:=by omega
     simp [h2]
   generalize hcd:decide (0<cntD x.h.cH j)=sm at *;by_cases hng:x.h.cH j<0
   ·have hge:¬ x.h.cH j ≥ 0:=by omega
    have hS:Hid (decide (0<cntD x.h.cH (j+1))=sm):=by
     show decide (0<cntD x.h.cH (j+1))=sm;rw [HCN.out,decide_eq_false (show ¬ 0<=x.h.cH j by omega)];simp
    clear HCN hcd;have HN1:Hid (x.h.cH j<0):=hng;cases sm
    ·go_wp2_with fail
     go_loopw [6] (fun i wq=>∃ a:Nat,a<=x.s.pn/\i=.int .i64 a/\wq=w3/\Hid (∀ m,m<a->x.h.oH (m*x.s.pn+j)=false/\x.h.kL (m*x.s.pn+j)=0)) (fun i _=>x.s.pn - (intOf i).toNat)
     case atStart=>exact ⟨0,nD _,rfl,rfl,fun m hm=>by omega⟩
     case round=>
      obtain ⟨a,ha,rfl,rfl,HA⟩:=hrel;by_cases hat:a<x.s.pn
      ·have hat':(a:Int)<(x.s.pn:Int):=by omega
       have hJl:a*x.s.pn+j<x.s.wn:=by
        rw [HWN.out];have:(a+1)*x.s.pn<=x.s.pn*x.s.pn:=Nat.mul_le_mul_right _ (by omega);rw [Nat.add_mul] at this;omega
       have hJo:a*x.s.pn+j<x.h.ol:=by have:=HF.2.2.1;omega
       have hJk:a*x.s.pn+j<x.h.kn:=by have:=HF.2.2.2;omega
       have hJe:(a:Int)*(x.s.pn:Int)+(j:Int)=((a*x.s.pn+j:Nat):Int):=by rw [Int.natCast_add,Int.natCast_mul]
       have hm0:0<=(a:Int)*(x.s.pn:Int):=Int.mul_nonneg (by omega) (by omega)
       have hm1:(a:Int)*(x.s.pn:Int)<=16:=by
        have:=Int.mul_le_mul (show (a:Int)<=4 by omega) hp4 (by omega) (by omega);omega
       have HA1:Hid (x.h.oH (a*x.s.pn+j)=false->x.h.kL (a*x.s.pn+j)=0->∀ m,m<a+1->x.h.oH (m*x.s.pn+j)=false/\x.h.kL (m*x.s.pn+j)=0):=fun h1 h2 m hm=>by
        by_cases e:m=a
        ·subst e;exact ⟨h1,h2⟩
        ·exact HA.out m (by omega)
       have HNo:Hid (x.h.oH (a*x.s.pn+j)=true\/0<x.h.kL (a*x.s.pn+j)->¬ LvOk x.s.y x.h.z):=fun h1 h=>by
        have h2:=(qme (y:=x.s.y) (z:=x.h.z) hp1 HF.1 HWN.out).2 ⟨h.d,h.u⟩ j hlt;obtain ⟨h3,h4⟩:=h2.2 HN1.out a hat;have h3:x.h.oH (a*x.s.pn+j)=false:=h3;have h4:x.h.kL (a*x.s.pn+j)=0:=h4
        rcases h1 with h1 | h1
        ·rw [h3] at h1;cases h1
        ·omega
       generalize hJ:a*x.s.pn+j=J at *;have hJo':(J:Int)<(x.h.ol:Int):=by omega
       have hJk':(J:Int)<(x.h.kn:Int):=by omega
       have hkl:(x.h.kL J:Int)<=1048576:=by have:=HL.h.k.2 J hJk;omega
       obtain ⟨ob,oo,eo,-,o0⟩:=(HG.h.o.bw X3.1).at hJo;obtain ⟨kb,ko,ek,k0⟩:=(HG.h.k.bw X3.1).at hJk;rw [eo] at p6;rw [ek] at p7;clear eo ek hJ HA;generalize hq:x.h.oH J=t at *;cases t
       ·by_cases d2:(x.h.kL J:Int) > 0
        ·have HN:Hid (¬ LvOk x.s.y x.h.z):=HNo.out (.inr (by omega))
         have B1:Hid (Below w.heap.size w _):=X3.1;clear HNo HA1 HU X3;go_wp2;go_ret;exact ⟨qaf (qak HN.out).symm,B1.out⟩
        ·have HA2:Hid (∀ m,m<a+1->x.h.oH (m*x.s.pn+j)=false/\x.h.kL (m*x.s.pn+j)=0):=HA1.out rfl (by omega)
         clear HNo HA1;go_wp2;go_roundw
         case rel=>exact ⟨a+1,by omega,by go_num,by trivial,HA2.out⟩
         case measure=>simp [intOf];omega
       ·have HN:Hid (¬ LvOk x.s.y x.h.z):=HNo.out (.inl rfl)
        have B1:Hid (Below w.heap.size w _):=X3.1;clear HNo HA1 HU X3;go_wp2;go_ret;exact ⟨qaf (qak HN.out).symm,B1.out⟩
      ·have HJ:Hid (UpTo x.s.y x.h.z (j+1)):=HU.next ⟨HR.out,fun _ m hm=>HA.out m (by have:m<x.s.pn:=hm;omega)⟩
       clear HA HU HR;go_wp2;go_roundw
       case rel=>exact ⟨j+1,by omega,by go_num,by rw [hS.out],X3.out,HJ.out⟩
       case measure=>simp [intOf];omega
    ·go_wp2_with fail
     go_loopw [6] (fun i wq=>∃ a:Nat,a<=x.s.pn/\i=.int .i64 a/\wq=w3/\Hid (∀ m,m<a->x.h.oH (m*x.s.pn+j)=false/\x.h.kL (m*x.s.pn+j)=0)) (fun i _=>x.s.pn - (intOf i).toNat)
     case atStart=>exact ⟨0,nD _,rfl,rfl,fun m hm=>by omega⟩
     case round=>
      obtain ⟨a,ha,rfl,rfl,HA⟩:=hrel;by_cases hat:a<x.s.pn
      ·have hat':(a:Int)<(x.s.pn:Int):=by omega
       have hJl:a*x.s.pn+j<x.s.wn:=by
        rw [HWN.out];have:(a+1)*x.s.pn<=x.s.pn*x.s.pn:=Nat.mul_le_mul_right _ (by omega);rw [Nat.add_mul] at this;omega
       have hJo:a*x.s.pn+j<x.h.ol:=by have:=HF.2.2.1;omega
       have hJk:a*x.s.pn+j<x.h.kn:=by have:=HF.2.2.2;omega
       have hJe:(a:Int)*(x.s.pn:Int)+(j:Int)=((a*x.s.pn+j:Nat):Int):=by rw [Int.natCast_add,Int.natCast_mul]
       have hm0:0<=(a:Int)*(x.s.pn:Int):=Int.mul_nonneg (by omega) (by omega)
       have hm1:(a:Int)*(x.s.pn:Int)<=16:=by
        have:=Int.mul_le_mul (show (a:Int)<=4 by omega) hp4 (by omega) (by omega);omega
       have HA1:Hid (x.h.oH (a*x.s.pn+j)=false->x.h.kL (a*x.s.pn+j)=0->∀ m,m<a+1->x.h.oH (m*x.s.pn+j)=false/\x.h.kL (m*x.s.pn+j)=0):=fun h1 h2 m hm=>by
        by_cases e:m=a
        ·subst e;exact ⟨h1,h2⟩
        ·exact HA.out m (by omega)
       have HNo:Hid (x.h.oH (a*x.s.pn+j)=true\/0<x.h.kL (a*x.s.pn+j)->¬ LvOk x.s.y x.h.z):=fun h1 h=>by
        have h2:=(qme (y:=x.s.y) (z:=x.h.z) hp1 HF.1 HWN.out).2 ⟨h.d,h.u⟩ j hlt;obtain ⟨h3,h4⟩:=h2.2 HN1.out a hat;have h3:x.h.oH (a*x.s.pn+j)=false:=h3;have h4:x.h.kL (a*x.s.pn+j)=0:=h4
        rcases h1 with h1 | h1
        ·rw [h3] at h1;cases h1
        ·omega
       generalize hJ:a*x.s.pn+j=J at *;have hJo':(J:Int)<(x.h.ol:Int):=by omega
       have hJk':(J:Int)<(x.h.kn:Int):=by omega
       have hkl:(x.h.kL J:Int)<=1048576:=by have:=HL.h.k.2 J hJk;omega
       obtain ⟨ob,oo,eo,-,o0⟩:=(HG.h.o.bw X3.1).at hJo;obtain ⟨kb,ko,ek,k0⟩:=(HG.h.k.bw X3.1).at hJk;rw [eo] at p6;rw [ek] at p7;clear eo ek hJ HA;generalize hq:x.h.oH J=t at *;cases t
       ·by_cases d2:(x.h.kL J:Int) > 0
        ·have HN:Hid (¬ LvOk x.s.y x.h.z):=HNo.out (.inr (by omega))
         have B1:Hid (Below w.heap.size w _):=X3.1;clear HNo HA1 HU X3;go_wp2;go_ret;exact ⟨qaf (qak HN.out).symm,B1.out⟩
        ·have HA2:Hid (∀ m,m<a+1->x.h.oH (m*x.s.pn+j)=false/\x.h.kL (m*x.s.pn+j)=0):=HA1.out rfl (by omega)
         clear HNo HA1;go_wp2;go_roundw
         case rel=>exact ⟨a+1,by omega,by go_num,by trivial,HA2.out⟩
         case measure=>simp [intOf];omega
       ·have HN:Hid (¬ LvOk x.s.y x.h.z):=HNo.out (.inl rfl)
        have B1:Hid (Below w.heap.size w _):=X3.1;clear HNo HA1 HU X3;go_wp2;go_ret;exact ⟨qaf (qak HN.out).symm,B1.out⟩
      ·have HJ:Hid (UpTo x.s.y x.h.z (j+1)):=HU.next ⟨HR.out,fun _ m hm=>HA.out m (by have:m<x.s.pn:=hm;omega)⟩
       clear HA HU HR;go_wp2;go_roundw
       case rel=>exact ⟨j+1,by omega,by go_num,by rw [hS.out],X3.out,HJ.out⟩
       case measure=>simp [intOf];omega
   ·have hge:x.h.cH j ≥ 0:=by omega
    have hS:Hid (decide (0<cntD x.h.cH (j+1))=true):=by
     show decide (0<cntD x.h.cH (j+1))=true;rw [HCN.out,decide_eq_true (show 0<=x.h.cH j by omega)];simp
    have HJ:Hid (UpTo x.s.y x.h.z (j+1)):=HU.next ⟨HR.out,fun h=>absurd h hng⟩;clear HCN hcd HU HR;have z0:(0:Int)<(x.s.pn:Int):=by omega
    cases sm
    ·go_wp2_with fail
     go_rounds 1
     go_roundw
     case rel=>exact ⟨j+1,by omega,by go_num,by rw [hS.out],X3.out,HJ.out⟩
     case measure=>simp [intOf];omega
    ·go_wp2_with fail
     go_rounds 1
     go_roundw
     case rel=>exact ⟨j+1,by omega,by go_num,by rw [hS.out],X3.out,HJ.out⟩
     case measure=>simp [intOf];omega
  ·have hjn:j=x.s.pn:=by omega
   have HE:Hid (LvOk x.s.y x.h.z ↔ ((x.h.on=true ↔ 0<cntD x.h.cH j)/\(x.h.on=true\/¬ x.s.y.Marks))):=by
    have hu:=(qme (y:=x.s.y) (z:=x.h.z) hp1 HF.1 HWN.out).1 (by rw [hjn] at HU;exact HU.out);have hcn:x.h.cn=j:=by have:=HF.2.1;omega
    constructor
    ·intro h
     have:=h.o
     have e:x.h.z.Drawn ↔ 0<cntD x.h.cH j:=by
      show 0<cntD x.h.cH x.h.cn ↔ _;rw [hcn]
     exact ⟨h.o.trans e,h.m⟩
    ·intro h
     refine ⟨HO.out,HF.1,hu.1,hu.2,h.1.trans ?_,h.2⟩;show _ ↔ 0<cntD x.h.cH x.h.cn;rw [hcn]
   clear HU HO HF hjn;generalize hon:x.h.on=on at *;obtain ⟨B1,p0,p1,p2,p3,p4,p5,p6,p7⟩:=HX.out;have BB1:Hid (Below w.heap.size w wr):=B1;rw [hon] at p4;clear B1;by_cases hc:0<cntD x.h.cH j
   ·rw [decide_eq_true hc]
    have hH:Hid (LvOk x.s.y x.h.z ↔ on=true):=by
     have h1:=HE.out;simp only [hc] at h1;refine h1.trans ⟨fun h=>h.1.2 trivial,fun h=>⟨⟨fun _=>trivial,fun _=>h⟩,.inl h⟩⟩
    clear hc HE hon HX;cases on
    ·go_wp2
     go_ret;exact ⟨qaf (qak (fun h=>by cases hH.1 h)).symm,BB1.out⟩
    ·go_wp2
     go_ret;exact ⟨qaf (qbl (hH.2 (by simp))).symm,BB1.out⟩
   ·rw [decide_eq_false hc]
    have hH:Hid (LvOk x.s.y x.h.z ↔ (on=false/\¬ x.s.y.Marks)):=by
     have h1:=HE.out;simp only [hc,iff_false] at h1;refine h1.trans ⟨fun h=>⟨by simpa using h.1,h.2.resolve_left h.1⟩,fun h=>⟨by rw [h.1];simp,.inr h.2⟩⟩
    clear hc HE hon;cases on
    ·go_wp2_with fail
     clear p0 p1 p2 p3 p4 p5 p6 p7;refine (qnp x.s wr (HG.s.bw HX.1) HL.s).mono ?_;rintro e w7 ⟨rfl,b7⟩;have BB:Hid (Below w.heap.size w w7):=HX.1.trans (b7.mono HX.1.size);clear b7 HX;by_cases hm:x.s.y.Marks
     ·rw [qbl hm]
      have HN:Hid (¬ LvOk x.s.y x.h.z):=fun h=>(hH.1 h).2 hm;clear hm hH;go_wp2;go_ret;exact ⟨qaf (qak HN.out).symm,BB.out⟩
     ·rw [qak hm]
      have HN:Hid (LvOk x.s.y x.h.z):=hH.2 ⟨by simp,hm⟩;clear hm hH;go_wp2;go_ret;exact ⟨qaf (qbl HN.out).symm,BB.out⟩
    ·clear HX
     go_wp2;go_ret;exact ⟨qaf (qak (fun h=>by cases (hH.1 h).1)).symm,BB1.out⟩
