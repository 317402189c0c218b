import Derived.Test.YtkdablcbhhphoaaGreatDoorMt9
import Derived.Laws.EntriesVeiled
namespace Go.Proofs.YtkdablcbhhphoaaGreatDoor
open Go.Proofs.Tryz
set_option maxRecDepth 100000
set_option maxHeartbeats 2000000
open Go.RowKit
theorem qaq (w:World) (cs:Array Value) (t:TypeId) (j:Nat) {N:Nat} (h:N=w.heap.size):(w.alloc (.cells cs t)).cell? ⟨N,j,none⟩=cs[j]?:=by
 subst h;simp
theorem qdq (w:World) (cs:Array Value) (t:TypeId) (j:Nat) {N:Nat} (h:N=w.heap.size):(w.alloc (.cells cs t)).frozen? ⟨N,j,none⟩=false:=by
 subst h;simp
theorem qvs (a b c d:Int) (j:Nat) (v:Int) (hj:j<4):[(set4 a b c d j v).1,(set4 a b c d j v).2.1,(set4 a b c d j v).2.2.1,(set4 a b c d j v).2.2.2]=[a,b,c,d].set j v:=by
 match j,hj with
 | 0,_=>rfl
 | 1,_=>rfl
 | 2,_=>rfl
 | 3,_=>rfl
theorem qxi (p a b c d:Int) (oa:Option Addr) (on oc:Nat) (code:Int) (jr ja jb:Nat) (n o k q v:Int) (w:World) (h0:0<=p) (h1:p<=1000000000) (hj:jr<4):
  Calls prog 212 #[dV p a b c d oa on oc code,insV o jr ja jb n,evV k q v] w (rB w (dV (p+1) (set4 a b c d jr (n)).1 (set4 a b c d jr (n)).2.1 (set4 a b c d jr (n)).2.2.1 (set4 a b c d jr (n)).2.2.2 oa on oc code)):=by
 go_enter func212,ntmps212
 go_wp2_with fail
 refine (qfb _ _ _ _ _ _ _ _ _ _ _ _ h0 h1 hj).mono ?_;rintro e w1 ⟨rfl,b1⟩;have B1:Hid (Below w.heap.size w w1):=qai (by go_grown) b1 (by simp;omega);obtain ⟨hc1,hf1⟩:=qap b1;clear b1;go_wp2;refine bodyPost_ret (v:=dV (p+1) (set4 a b c d jr (n)).1 (set4 a b c d jr (n)).2.1 (set4 a b c d jr (n)).2.2.1 (set4 a b c d jr (n)).2.2.2 oa on oc code) (by simp [results,results212,go_sem,hc1]) rfl ⟨rfl,?_⟩;have:=B1.out
 go_grown
theorem qvy (p a b c d:Int) (oa:Option Addr) (on oc:Nat) (code:Int) (jr ja jb:Nat) (n o k q v:Int) (w:World) (h0:0<=p) (h1:p<=1000000000) (hj:jr<4):
  Calls prog 218 #[dV p a b c d oa on oc code,insV o jr ja jb n,evV k q v] w (rB w (dV (p+1) (set4 a b c d jr (v)).1 (set4 a b c d jr (v)).2.1 (set4 a b c d jr (v)).2.2.1 (set4 a b c d jr (v)).2.2.2 oa on oc code)):=by
 go_enter func218,ntmps218
 go_wp2_with fail
 refine (qfb _ _ _ _ _ _ _ _ _ _ _ _ h0 h1 hj).mono ?_;rintro e w1 ⟨rfl,b1⟩;have B1:Hid (Below w.heap.size w w1):=qai (by go_grown) b1 (by simp;omega);obtain ⟨hc1,hf1⟩:=qap b1;clear b1;go_wp2;refine bodyPost_ret (v:=dV (p+1) (set4 a b c d jr (v)).1 (set4 a b c d jr (v)).2.1 (set4 a b c d jr (v)).2.2.1 (set4 a b c d jr (v)).2.2.2 oa on oc code) (by simp [results,results218,go_sem,hc1]) rfl ⟨rfl,?_⟩;have:=B1.out
 go_grown
theorem qvx (p a b c d:Int) (oa:Option Addr) (on oc:Nat) (code:Int) (jr ja jb:Nat) (n o k q v:Int) (w:World) (h0:0<=p) (h1:p<=1000000000):
  Calls prog 217 #[dV p a b c d oa on oc code,insV o jr ja jb n,evV k q v] w (rB w (dV (p+1) a b c d oa on oc code)):=by
 go_enter func217,ntmps217
 go_wp2_with fail
 refine (qcl _ _ _ _ _ _ _ _ _ _ h0 h1).mono ?_;rintro e w1 ⟨rfl,b1⟩;have B1:Hid (Below w.heap.size w w1):=qai (by go_grown) b1 (by simp;omega);obtain ⟨hc1,hf1⟩:=qap b1;clear b1;go_wp2;refine bodyPost_ret (v:=dV (p+1) a b c d oa on oc code) (by simp [results,results217,go_sem,hc1]) rfl ⟨rfl,?_⟩;have:=B1.out
 go_grown
theorem qor (p a b c d:Int) (oa:Option Addr) (on oc:Nat) (code:Int) (jr ja jb:Nat) (n o k q v:Int) (w:World) (_h0:0<=p) (_h1:p<=1000000000):
  Calls prog 220 #[dV p a b c d oa on oc code,insV o jr ja jb n,evV k q v] w (rB w (dV n a b c d oa on oc code)):=by
 go_enter func220,ntmps220
 go_wp2;refine bodyPost_ret (v:=dV n a b c d oa on oc code) (by simp [results,results220,go_sem]) rfl ⟨rfl,?_⟩
 go_grown
theorem qxg (p a b c d:Int) (oa:Option Addr) (on oc:Nat) (code:Int) (jr ja jb:Nat) (n o k q v:Int) (w:World) (_h0:0<=p) (_h1:p<=1000000000):
  Calls prog 222 #[dV p a b c d oa on oc code,insV o jr ja jb n,evV k q v] w (rB w (dV p a b c d oa on oc 1)):=by
 go_enter func222,ntmps222
 go_wp2;refine bodyPost_ret (v:=dV p a b c d oa on oc 1) (by simp [results,results222,go_sem]) rfl ⟨rfl,?_⟩
 go_grown
theorem quk {w W:World} {v0:Int} {v1:Int} {v2:Int} {v3:Int} {v4:Int} {v5:Option Addr} {v6:Nat} {v7:Nat} {v8:Int} {v9:Int} {v10:Int} {v11:Int} {v12:Int} {v13:Int} {v14:Int} {v15:Int} {v16:Int} (hW:((((w.alloc (oQ3 v0 v1 v2 v3 v4 v5 v6 v7 v8)).alloc (oQ2 v9 v10 v11 v12 v13)).alloc (oQ0 v14 v15 v16)).alloc (zQ1))=W):W.cell? ⟨w.heap.size,0,none⟩=some (.int .i64 v0)/\W.cell? ⟨w.heap.size,1,none⟩=some (.int .i64 v1)/\W.cell? ⟨w.heap.size,2,none⟩=some (.int .i64 v2)/\W.cell? ⟨w.heap.size,3,none⟩=some (.int .i64 v3)/\W.cell? ⟨w.heap.size,4,none⟩=some (.int .i64 v4)/\W.cell? ⟨w.heap.size,5,none⟩=some (.slice v5 v6 v7)/\W.cell? ⟨w.heap.size,6,none⟩=some (.int .i64 v8)/\W.cell? ⟨w.heap.size+1,0,none⟩=some (.int .i64 v9)/\W.cell? ⟨w.heap.size+1,1,none⟩=some (.int .i64 v10)/\W.cell? ⟨w.heap.size+1,2,none⟩=some (.int .i64 v11)/\W.cell? ⟨w.heap.size+1,3,none⟩=some (.int .i64 v12)/\W.cell? ⟨w.heap.size+1,4,none⟩=some (.int .i64 v13)/\W.cell? ⟨w.heap.size+1+1,0,none⟩=some (.int .i64 v14)/\W.cell? ⟨w.heap.size+1+1,1,none⟩=some (.int .i64 v15)/\W.cell? ⟨w.heap.size+1+1,2,none⟩=some (.int .i64 v16)/\W.cell? ⟨w.heap.size+1+1+1,0,none⟩=some (.int .i64 0)/\W.cell? ⟨w.heap.size+1+1+1,1,none⟩=some (.int .i64 0)/\W.cell? ⟨w.heap.size+1+1+1,2,none⟩=some (.int .i64 0)/\W.cell? ⟨w.heap.size+1+1+1,3,none⟩=some (.int .i64 0)/\W.cell? ⟨w.heap.size+1+1+1,4,none⟩=some (.int .i64 0)/\W.cell? ⟨w.heap.size+1+1+1,5,none⟩=some nS/\W.cell? ⟨w.heap.size+1+1+1,6,none⟩=some (.int .i64 0)/\(∀ j,W.frozen? ⟨w.heap.size+1+1+1,j,none⟩=false)/\w.heap.size+1+1+1<W.heap.size/\Below w.heap.size w W:=by
 subst hW;exact ⟨(zQ _ _ (by simp<;>omega)).trans ((zQ _ _ (by simp<;>omega)).trans ((zQ _ _ (by simp)).trans (by simp))),(zQ _ _ (by simp<;>omega)).trans ((zQ _ _ (by simp<;>omega)).trans ((zQ _ _ (by simp)).trans (by simp))),(zQ _ _ (by simp<;>omega)).trans ((zQ _ _ (by simp<;>omega)).trans ((zQ _ _ (by simp)).trans (by simp))),(zQ _ _ (by simp<;>omega)).trans ((zQ _ _ (by simp<;>omega)).trans ((zQ _ _ (by simp)).trans (by simp))),(zQ _ _ (by simp<;>omega)).trans ((zQ _ _ (by simp<;>omega)).trans ((zQ _ _ (by simp)).trans (by simp))),(zQ _ _ (by simp<;>omega)).trans ((zQ _ _ (by simp<;>omega)).trans ((zQ _ _ (by simp)).trans (by simp))),(zQ _ _ (by simp<;>omega)).trans ((zQ _ _ (by simp<;>omega)).trans ((zQ _ _ (by simp)).trans (by simp))),(zQ _ _ (by simp<;>omega)).trans ((zQ _ _ (by simp)).trans (by simp)),(zQ _ _ (by simp<;>omega)).trans ((zQ _ _ (by simp)).trans (by simp)),(zQ _ _ (by simp<;>omega)).trans ((zQ _ _ (by simp)).trans (by simp)),(zQ _ _ (by simp<;>omega)).trans ((zQ _ _ (by simp)).trans (by simp)),(zQ _ _ (by simp<;>omega)).trans ((zQ _ _ (by simp)).trans (by simp)),(zQ _ _ (by simp)).trans (qaq _ _ _ 0 (by simp)),(zQ _ _ (by simp)).trans (qaq _ _ _ 1 (by simp)),(zQ _ _ (by simp)).trans (qaq _ _ _ 2 (by simp)),qaq _ _ _ 0 (by simp),qaq _ _ _ 1 (by simp),qaq _ _ _ 2 (by simp),qaq _ _ _ 3 (by simp),qaq _ _ _ 4 (by simp),qaq _ _ _ 5 (by simp),qaq _ _ _ 6 (by simp),fun j=>qdq _ _ _ j (by simp),by simp,by go_grown⟩
theorem qxf (p a b c d:Int) (oa:Option Addr) (on oc:Nat) (code:Int) (jr ja jb:Nat) (n o k q v:Int) (w:World) (h0:0<=p) (h1:p<=1000000000) (hj:jr<4) (ha:ja<4) (hb:jb<4) (na1:-1000000000<=zi [a,b,c,d] ja) (na2:zi [a,b,c,d] ja<=1000000000) (nb1:-1000000000<=zi [a,b,c,d] jb) (nb2:zi [a,b,c,d] jb<=1000000000) (mb1:-1000000000000000000<=zi [a,b,c,d] ja*zi [a,b,c,d] jb) (mb2:zi [a,b,c,d] ja*zi [a,b,c,d] jb<=1000000000000000000):
  Calls prog 213 #[dV p a b c d oa on oc code,insV o jr ja jb n,evV k q v] w (rB w (dV (p+1) (set4 a b c d jr (zi [a,b,c,d] ja+zi [a,b,c,d] jb)).1 (set4 a b c d jr (zi [a,b,c,d] ja+zi [a,b,c,d] jb)).2.1 (set4 a b c d jr (zi [a,b,c,d] ja+zi [a,b,c,d] jb)).2.2.1 (set4 a b c d jr (zi [a,b,c,d] ja+zi [a,b,c,d] jb)).2.2.2 oa on oc code)):=by
 go_enter func213,ntmps213
 go_wp2_with fail
 generalize hW:((((w.alloc (oQ3 p a b c d oa on oc code)).alloc (oQ2 o jr ja jb n)).alloc (oQ0 k q v)).alloc (zQ1))=W at *;obtain ⟨k0,k1,k2,k3,k4,k5,k6,x0,x1,x2,x3,x4,y0,y1,y2,r0,r1,r2,r3,r4,r5,r6,rf,l3,BW'⟩:=quk hW;have BW:Hid (Below w.heap.size w W):=BW';clear BW';clear hW;have l0:w.heap.size<W.heap.size:=by omega
 have l1:w.heap.size+1<W.heap.size:=by omega
 have l2:w.heap.size+1+1<W.heap.size:=by omega
 have ja':(ja:Int)<4:=by omega
 have ca:W.cell? ⟨w.heap.size,1+ja,none⟩=some (.int .i64 (zi [a,b,c,d] ja)):=by
  match ja,ha with
  | 0,_=>exact k1
  | 1,_=>exact k2
  | 2,_=>exact k3
  | 3,_=>exact k4
 have cb:W.cell? ⟨w.heap.size,1+jb,none⟩=some (.int .i64 (zi [a,b,c,d] jb)):=by
  match jb,hb with
  | 0,_=>exact k1
  | 1,_=>exact k2
  | 2,_=>exact k3
  | 3,_=>exact k4
 have jb':(jb:Int)<4:=by omega
 have hw:IntKind.i64.wrap (zi [a,b,c,d] ja+zi [a,b,c,d] jb)=zi [a,b,c,d] ja+zi [a,b,c,d] jb:=by rw [IntKind.wrap_i64];omega
 generalize hN3:w.heap.size+1+1+1=N3 at *;generalize hN2:w.heap.size+1+1=N2 at *;generalize hN1:w.heap.size+1=N1 at *;have ne1:w.heap.size≠N3:=by omega
 have ne2:N1≠N3:=by omega
 have ne3:N3≠w.heap.size:=by omega
 have ne4:N3≠N1:=by omega
 have HN:Hid (w.heap.size<N3):=by show w.heap.size<N3;omega
 clear hN1 hN2 hN3
 go_region_held3 (fun w'=>w'.cell? ⟨w.heap.size,0,none⟩=some (.int .i64 p)/\w'.cell? ⟨w.heap.size,1,none⟩=some (.int .i64 a)/\w'.cell? ⟨w.heap.size,2,none⟩=some (.int .i64 b)/\w'.cell? ⟨w.heap.size,3,none⟩=some (.int .i64 c)/\w'.cell? ⟨w.heap.size,4,none⟩=some (.int .i64 d)/\w'.cell? ⟨w.heap.size,5,none⟩=some (.slice oa on oc)/\w'.cell? ⟨w.heap.size,6,none⟩=some (.int .i64 code)/\w'.cell? ⟨N1,1,none⟩=some (.int .i64 jr)/\w'.cell? ⟨N1,2,none⟩=some (.int .i64 ja)/\w'.cell? ⟨N1,3,none⟩=some (.int .i64 jb)/\w'.cell? ⟨w.heap.size,1+ja,none⟩=some (.int .i64 (zi [a,b,c,d] ja))/\w'.cell? ⟨w.heap.size,1+jb,none⟩=some (.int .i64 (zi [a,b,c,d] jb))) (go_keep)
  (first|(go_at_call 238;refine (qfb _ _ _ _ _ _ _ _ _ _ _ _ h0 h1 hj).mono ?_;rintro e w1 ⟨rfl,b1'⟩;have b1:Below W.heap.size W w1:=(nE W.heap.size W).drew.trans b1';obtain ⟨hc1,hf1⟩:=qap b1;have B1:Hid (Below w.heap.size w w1):=BW.trans (b1.mono BW.size);clear b1 b1'))
 go_wp2;refine bodyPost_ret (v:=dV (p+1) (set4 a b c d jr (zi [a,b,c,d] ja+zi [a,b,c,d] jb)).1 (set4 a b c d jr (zi [a,b,c,d] ja+zi [a,b,c,d] jb)).2.1 (set4 a b c d jr (zi [a,b,c,d] ja+zi [a,b,c,d] jb)).2.2.1 (set4 a b c d jr (zi [a,b,c,d] ja+zi [a,b,c,d] jb)).2.2.2 oa on oc code) (by simp [results,results213,go_sem,hc1,l3,r0,r1,r2,r3,r4,r5,r6]) rfl ⟨rfl,?_⟩;have:=B1.out;have:=HN.out
 go_grown
theorem qxj (p a b c d:Int) (oa:Option Addr) (on oc:Nat) (code:Int) (jr ja jb:Nat) (n o k q v:Int) (w:World) (h0:0<=p) (h1:p<=1000000000) (hj:jr<4) (ha:ja<4) (hb:jb<4) (na1:-1000000000<=zi [a,b,c,d] ja) (na2:zi [a,b,c,d] ja<=1000000000) (nb1:-1000000000<=zi [a,b,c,d] jb) (nb2:zi [a,b,c,d] jb<=1000000000) (mb1:-1000000000000000000<=zi [a,b,c,d] ja*zi [a,b,c,d] jb) (mb2:zi [a,b,c,d] ja*zi [a,b,c,d] jb<=1000000000000000000):
  Calls prog 214 #[dV p a b c d oa on oc code,insV o jr ja jb n,evV k q v] w (rB w (dV (p+1) (set4 a b c d jr (zi [a,b,c,d] ja - zi [a,b,c,d] jb)).1 (set4 a b c d jr (zi [a,b,c,d] ja - zi [a,b,c,d] jb)).2.1 (set4 a b c d jr (zi [a,b,c,d] ja - zi [a,b,c,d] jb)).2.2.1 (set4 a b c d jr (zi [a,b,c,d] ja - zi [a,b,c,d] jb)).2.2.2 oa on oc code)):=by
 go_enter func214,ntmps214
 go_wp2_with fail
 generalize hW:((((w.alloc (oQ3 p a b c d oa on oc code)).alloc (oQ2 o jr ja jb n)).alloc (oQ0 k q v)).alloc (zQ1))=W at *;obtain ⟨k0,k1,k2,k3,k4,k5,k6,x0,x1,x2,x3,x4,y0,y1,y2,r0,r1,r2,r3,r4,r5,r6,rf,l3,BW'⟩:=quk hW;have BW:Hid (Below w.heap.size w W):=BW';clear BW';clear hW;have l0:w.heap.size<W.heap.size:=by omega
 have l1:w.heap.size+1<W.heap.size:=by omega
 have l2:w.heap.size+1+1<W.heap.size:=by omega
 have ja':(ja:Int)<4:=by omega
 have ca:W.cell? ⟨w.heap.size,1+ja,none⟩=some (.int .i64 (zi [a,b,c,d] ja)):=by
  match ja,ha with
  | 0,_=>exact k1
  | 1,_=>exact k2
  | 2,_=>exact k3
  | 3,_=>exact k4
 have cb:W.cell? ⟨w.heap.size,1+jb,none⟩=some (.int .i64 (zi [a,b,c,d] jb)):=by
  match jb,hb with
  | 0,_=>exact k1
  | 1,_=>exact k2
  | 2,_=>exact k3
  | 3,_=>exact k4
 have jb':(jb:Int)<4:=by omega
 have hw:IntKind.i64.wrap (zi [a,b,c,d] ja - zi [a,b,c,d] jb)=zi [a,b,c,d] ja - zi [a,b,c,d] jb:=by rw [IntKind.wrap_i64];omega
 generalize hN3:w.heap.size+1+1+1=N3 at *;generalize hN2:w.heap.size+1+1=N2 at *;generalize hN1:w.heap.size+1=N1 at *;have ne1:w.heap.size≠N3:=by omega
 have ne2:N1≠N3:=by omega
 have ne3:N3≠w.heap.size:=by omega
 have ne4:N3≠N1:=by omega
 have HN:Hid (w.heap.size<N3):=by show w.heap.size<N3;omega
 clear hN1 hN2 hN3
 go_region_held3 (fun w'=>w'.cell? ⟨w.heap.size,0,none⟩=some (.int .i64 p)/\w'.cell? ⟨w.heap.size,1,none⟩=some (.int .i64 a)/\w'.cell? ⟨w.heap.size,2,none⟩=some (.int .i64 b)/\w'.cell? ⟨w.heap.size,3,none⟩=some (.int .i64 c)/\w'.cell? ⟨w.heap.size,4,none⟩=some (.int .i64 d)/\w'.cell? ⟨w.heap.size,5,none⟩=some (.slice oa on oc)/\w'.cell? ⟨w.heap.size,6,none⟩=some (.int .i64 code)/\w'.cell? ⟨N1,1,none⟩=some (.int .i64 jr)/\w'.cell? ⟨N1,2,none⟩=some (.int .i64 ja)/\w'.cell? ⟨N1,3,none⟩=some (.int .i64 jb)/\w'.cell? ⟨w.heap.size,1+ja,none⟩=some (.int .i64 (zi [a,b,c,d] ja))/\w'.cell? ⟨w.heap.size,1+jb,none⟩=some (.int .i64 (zi [a,b,c,d] jb))) (go_keep)
  (first|(go_at_call 238;refine (qfb _ _ _ _ _ _ _ _ _ _ _ _ h0 h1 hj).mono ?_;rintro e w1 ⟨rfl,b1'⟩;have b1:Below W.heap.size W w1:=(nE W.heap.size W).drew.trans b1';obtain ⟨hc1,hf1⟩:=qap b1;have B1:Hid (Below w.heap.size w w1):=BW.trans (b1.mono BW.size);clear b1 b1'))
 go_wp2;refine bodyPost_ret (v:=dV (p+1) (set4 a b c d jr (zi [a,b,c,d] ja - zi [a,b,c,d] jb)).1 (set4 a b c d jr (zi [a,b,c,d] ja - zi [a,b,c,d] jb)).2.1 (set4 a b c d jr (zi [a,b,c,d] ja - zi [a,b,c,d] jb)).2.2.1 (set4 a b c d jr (zi [a,b,c,d] ja - zi [a,b,c,d] jb)).2.2.2 oa on oc code) (by simp [results,results214,go_sem,hc1,l3,r0,r1,r2,r3,r4,r5,r6]) rfl ⟨rfl,?_⟩;have:=B1.out;have:=HN.out
 go_grown
theorem qxh (p a b c d:Int) (oa:Option Addr) (on oc:Nat) (code:Int) (jr ja jb:Nat) (n o k q v:Int) (w:World) (h0:0<=p) (h1:p<=1000000000) (hj:jr<4) (ha:ja<4) (hb:jb<4) (na1:-1000000000<=zi [a,b,c,d] ja) (na2:zi [a,b,c,d] ja<=1000000000) (nb1:-1000000000<=zi [a,b,c,d] jb) (nb2:zi [a,b,c,d] jb<=1000000000) (mb1:-1000000000000000000<=zi [a,b,c,d] ja*zi [a,b,c,d] jb) (mb2:zi [a,b,c,d] ja*zi [a,b,c,d] jb<=1000000000000000000):
  Calls prog 215 #[dV p a b c d oa on oc code,insV o jr ja jb n,evV k q v] w (rB w (dV (p+1) (set4 a b c d jr (zi [a,b,c,d] ja*zi [a,b,c,d] jb)).1 (set4 a b c d jr (zi [a,b,c,d] ja*zi [a,b,c,d] jb)).2.1 (set4 a b c d jr (zi [a,b,c,d] ja*zi [a,b,c,d] jb)).2.2.1 (set4 a b c d jr (zi [a,b,c,d] ja*zi [a,b,c,d] jb)).2.2.2 oa on oc code)):=by
 go_enter func215,ntmps215
 go_wp2_with fail
 generalize hW:((((w.alloc (oQ3 p a b c d oa on oc code)).alloc (oQ2 o jr ja jb n)).alloc (oQ0 k q v)).alloc (zQ1))=W at *;obtain ⟨k0,k1,k2,k3,k4,k5,k6,x0,x1,x2,x3,x4,y0,y1,y2,r0,r1,r2,r3,r4,r5,r6,rf,l3,BW'⟩:=quk hW;have BW:Hid (Below w.heap.size w W):=BW';clear BW';clear hW;have l0:w.heap.size<W.heap.size:=by omega
 have l1:w.heap.size+1<W.heap.size:=by omega
 have l2:w.heap.size+1+1<W.heap.size:=by omega
 have ja':(ja:Int)<4:=by omega
 have ca:W.cell? ⟨w.heap.size,1+ja,none⟩=some (.int .i64 (zi [a,b,c,d] ja)):=by
  match ja,ha with
  | 0,_=>exact k1
  | 1,_=>exact k2
  | 2,_=>exact k3
  | 3,_=>exact k4
 have cb:W.cell? ⟨w.heap.size,1+jb,none⟩=some (.int .i64 (zi [a,b,c,d] jb)):=by
  match jb,hb with
  | 0,_=>exact k1
  | 1,_=>exact k2
  | 2,_=>exact k3
  | 3,_=>exact k4
 have jb':(jb:Int)<4:=by omega
 have hw:IntKind.i64.wrap (zi [a,b,c,d] ja*zi [a,b,c,d] jb)=zi [a,b,c,d] ja*zi [a,b,c,d] jb:=by rw [IntKind.wrap_i64];omega
 generalize hN3:w.heap.size+1+1+1=N3 at *;generalize hN2:w.heap.size+1+1=N2 at *;generalize hN1:w.heap.size+1=N1 at *;have ne1:w.heap.size≠N3:=by omega
 have ne2:N1≠N3:=by omega
 have ne3:N3≠w.heap.size:=by omega
 have ne4:N3≠N1:=by omega
 have HN:Hid (w.heap.size<N3):=by show w.heap.size<N3;omega
 clear hN1 hN2 hN3
 go_region_held3 (fun w'=>w'.cell? ⟨w.heap.size,0,none⟩=some (.int .i64 p)/\w'.cell? ⟨w.heap.size,1,none⟩=some (.int .i64 a)/\w'.cell? ⟨w.heap.size,2,none⟩=some (.int .i64 b)/\w'.cell? ⟨w.heap.size,3,none⟩=some (.int .i64 c)/\w'.cell? ⟨w.heap.size,4,none⟩=some (.int .i64 d)/\w'.cell? ⟨w.heap.size,5,none⟩=some (.slice oa on oc)/\w'.cell? ⟨w.heap.size,6,none⟩=some (.int .i64 code)/\w'.cell? ⟨N1,1,none⟩=some (.int .i64 jr)/\w'.cell? ⟨N1,2,none⟩=some (.int .i64 ja)/\w'.cell? ⟨N1,3,none⟩=some (.int .i64 jb)/\w'.cell? ⟨w.heap.size,1+ja,none⟩=some (.int .i64 (zi [a,b,c,d] ja))/\w'.cell? ⟨w.heap.size,1+jb,none⟩=some (.int .i64 (zi [a,b,c,d] jb))) (go_keep)
  (first|(go_at_call 238;refine (qfb _ _ _ _ _ _ _ _ _ _ _ _ h0 h1 hj).mono ?_;rintro e w1 ⟨rfl,b1'⟩;have b1:Below W.heap.size W w1:=(nE W.heap.size W).drew.trans b1';obtain ⟨hc1,hf1⟩:=qap b1;have B1:Hid (Below w.heap.size w w1):=BW.trans (b1.mono BW.size);clear b1 b1'))
 go_wp2;refine bodyPost_ret (v:=dV (p+1) (set4 a b c d jr (zi [a,b,c,d] ja*zi [a,b,c,d] jb)).1 (set4 a b c d jr (zi [a,b,c,d] ja*zi [a,b,c,d] jb)).2.1 (set4 a b c d jr (zi [a,b,c,d] ja*zi [a,b,c,d] jb)).2.2.1 (set4 a b c d jr (zi [a,b,c,d] ja*zi [a,b,c,d] jb)).2.2.2 oa on oc code) (by simp [results,results215,go_sem,hc1,l3,r0,r1,r2,r3,r4,r5,r6]) rfl ⟨rfl,?_⟩;have:=B1.out;have:=HN.out
 go_grown
theorem qiq (n cap:Nat) (h:n<=2000000) (hc:cap<n):Builtin.nextslicecap n cap*8<=281474976710656:=growslice_fits hc (by omega)
theorem qiv (w:World) (ty:TypeId) (B c:Nat) (v:Value) (ad:Addr) (xs:List Int) (y:Int) (h:OwnI w B v xs) (hy:w.cell? ad=some (.int .i64 y)) (hn:xs.length<=1048576) (hB:B<=w.heap.size):
  ∃ v' w',(Builtin.append_ #[28,28] ty #[v,.slice (some ad) 1 c]).run prog w=.ok v' w'/\OwnI w' B v' (xs ++ [y])/\OwnI w' B v xs/\w.grownBy w' v.ownBlock/\(v'.ownBlock=v.ownBlock\/v'.ownBlock=some w.heap.size):=by
 obtain ⟨i,hi,hz,hs,hb⟩:=qk9
 have hnews:∀ j u,([y].map (Value.int .i64))[j]? = some u->w.cell? (ad.add j)=some u:=by
  intro j u hj
  match j,hj with
  | 0,hj=>
   simp at hj;subst hj;simpa [Addr.add] using hy
 obtain ⟨v',w',h1,h2,h3,_,h5⟩:=run_append_own_at (P:=prog) w B 28 ty 3 i (.int .i64 0) 1 8 Tryz.underlying28 hi hz hs hb rfl (by decide) v xs.length (xs.map (Value.int .i64)) h ad 1 c ([y].map (Value.int .i64)) (by simp) hnews (qh0 [y]) (by unfold maxLen;omega) (by omega) hB;refine ⟨v',w',h1,?_,?_,h3,h5⟩
 ·unfold OwnI
  rw [List.length_append,List.map_append];exact h2
 ·rcases h.2 with ⟨rfl,h0⟩ | ⟨g,cap,cur,rfl,hbg,hg,hnc,hcm,hcs,htake⟩
  ·exact ⟨h.1,.inl ⟨rfl,h0⟩⟩
  ·by_cases hroom:xs.length+1<=cap
   ·have hr:=run_append_room (P:=prog) w 28 ty 3 i Tryz.underlying28 hi g xs.length cap cur hg ad 1 c ([y].map (Value.int .i64)) (by rw [hs];rfl) hnews (qh0 [y]) hroom (by rw [hs];simp;omega)
    rw [hr] at h1;simp only [Result.ok.injEq] at h1;obtain ⟨-,rfl⟩:=h1;refine ⟨h.1,.inr ⟨g,cap,_,rfl,hbg,setRow_heap w g cur _ 3 _ hg,hnc,hcm,?_,?_⟩⟩
    ·rw [hs]
     simp only [List.size_toArray,List.length_append,List.length_take,List.length_drop,Array.length_toList,List.length_map,List.length_cons,List.length_nil];omega
    ·rw [hs]
     simp only [Nat.mul_one] at htake ⊢;rw [htake];simp only [List.append_assoc];rw [List.take_append_of_le_length (by simp),List.take_of_length_le (by simp)]
   ·have holds:∀ j u,(xs.map (Value.int .i64))[j]? = some u->w.cell? ((⟨g,0,none⟩:Addr).add j)=some u:=World.ownsRow.cells h (g:=g) rfl
    have hr:=run_append_grow (P:=prog) w 28 ty 3 i (.int .i64 0) Tryz.underlying28 hi hz ⟨g,0,none⟩ xs.length cap (xs.map (Value.int .i64)) (by rw [hs];simp) holds ad 1 c ([y].map (Value.int .i64)) (by rw [hs];rfl) hnews (by omega) (by omega) (by rw [hb];exact qiq _ _ (by omega) (by omega));rw [hr] at h1;simp only [Result.ok.injEq] at h1;obtain ⟨-,rfl⟩:=h1;exact h.bw ((nE w.heap.size w).drew.alloc (by simp) _)
theorem qgc {ops:Array Oper} {rest:List Oper} {op:Oper} {act:Act} {Q:Exit->Act->World->Prop} (w:World) (hgd:op.guard=none) (s x:Operand)
  (ho:op.op=.call { callee:=.builtin .append,args:=#[s,x],argTypes:=#[28,28] })
  (B c:Nat) (v:Value) (ad:Addr) (xs:List Int) (y:Int) (hs:act.eval s=v) (hx:act.eval x=.slice (some ad) 1 c) (hv:OwnI w B v xs) (hy:w.cell? ad=some (.int .i64 y)) (hn:xs.length<=1048576) (hB:B<=w.heap.size)
  (h:∀ v' w',OwnI w' B v' (xs ++ [y])->OwnI w' B v xs->w.grownBy w' v.ownBlock->(v'.ownBlock=v.ownBlock\/v'.ownBlock=some w.heap.size)->wpList prog ops Q rest (act.put op.dst v') w'):
  wpList prog ops Q (op :: rest) act w:=by
 obtain ⟨v',w',h1,h2,h3,h4,h5⟩:=qiv w op.type B c v ad xs y hv hy hn hB;refine wpList_plain hgd fun K hK=>?_;unfold Oper.wp execOp;simp only [ho,resolve,invoke,builtin,Sem.run_bind,Sem.run_pure,Result.andThen_ok,List.map_toArray,List.map_cons,List.map_nil,hs,hx,h1];exact hK _ _ (h v' w' h2 h3 h4 h5)
theorem ql3 (p a b c d:Int) (oa:Option Addr) (on oc:Nat) (code:Int) (jr ja jb:Nat) (n o k q v:Int) (w:World) (_h0:0<=p) (_h1:p<=1000000000) (ha:ja<4) (hz:(zi [a,b,c,d] ja == 0)=true):
  Calls prog 221 #[dV p a b c d oa on oc code,insV o jr ja jb n,evV k q v] w (rB w (dV n a b c d oa on oc code)):=by
 have ca:((((w.alloc (oQ3 p a b c d oa on oc code)).alloc (oQ2 o jr ja jb n)).alloc (oQ0 k q v)).alloc (zQ1)).cell? ⟨w.heap.size,1+ja,none⟩=some (.int .i64 (zi [a,b,c,d] ja)):=by
  refine (zQ _ _ (by simp<;>omega)).trans ((zQ _ _ (by simp<;>omega)).trans ((zQ _ _ (by simp)).trans ?_))
  match ja,ha with
  | 0,_=>simp [zi]
  | 1,_=>simp [zi]
  | 2,_=>simp [zi]
  | 3,_=>simp [zi]
 have ja':(ja:Int)<4:=by omega
 go_enter func221,ntmps221
 go_wp2_with fail
 refine (qor _ _ _ _ _ _ _ _ _ _ _ _ _ _ _ _ _ _ _h0 _h1).mono ?_;rintro e w1 ⟨rfl,b1⟩;have B1:Hid (Below w.heap.size w w1):=qai (by go_grown) b1 (by simp;omega);obtain ⟨hc1,hf1⟩:=qap b1;clear b1;go_wp2;refine bodyPost_ret (v:=dV n a b c d oa on oc code) (by simp [results,results221,go_sem,hc1]) rfl ⟨rfl,?_⟩;have:=B1.out
 go_grown
theorem qot (p a b c d:Int) (oa:Option Addr) (on oc:Nat) (code:Int) (jr ja jb:Nat) (n o k q v:Int) (w:World) (h0:0<=p) (h1:p<=1000000000) (ha:ja<4) (hz:(zi [a,b,c,d] ja == 0)=false):
  Calls prog 221 #[dV p a b c d oa on oc code,insV o jr ja jb n,evV k q v] w (rB w (dV (p+1) a b c d oa on oc code)):=by
 have ca:((((w.alloc (oQ3 p a b c d oa on oc code)).alloc (oQ2 o jr ja jb n)).alloc (oQ0 k q v)).alloc (zQ1)).cell? ⟨w.heap.size,1+ja,none⟩=some (.int .i64 (zi [a,b,c,d] ja)):=by
  refine (zQ _ _ (by simp<;>omega)).trans ((zQ _ _ (by simp<;>omega)).trans ((zQ _ _ (by simp)).trans ?_))
  match ja,ha with
  | 0,_=>simp [zi]
  | 1,_=>simp [zi]
  | 2,_=>simp [zi]
  | 3,_=>simp [zi]
 have ja':(ja:Int)<4:=by omega
 go_enter func221,ntmps221
 go_wp2_with fail
 refine (qcl _ _ _ _ _ _ _ _ _ _ h0 h1).mono ?_;rintro e w1 ⟨rfl,b1⟩;have B1:Hid (Below w.heap.size w w1):=qai (by go_grown) b1 (by simp;omega);obtain ⟨hc1,hf1⟩:=qap b1;clear b1;go_wp2;refine bodyPost_ret (v:=dV (p+1) a b c d oa on oc code) (by simp [results,results221,go_sem,hc1]) rfl ⟨rfl,?_⟩;have:=B1.out
 go_grown
theorem qxq {w W:World} {v0:Int} {v1:Int} {v2:Int} {v3:Int} {v4:Int} {v5:Option Addr} {v6:Nat} {v7:Nat} {v8:Int} {v9:Int} {v10:Int} {v11:Int} {v12:Int} {v13:Int} {v14:Int} {v15:Int} {v16:Int} (hW:((((w.alloc (oQ3 v0 v1 v2 v3 v4 v5 v6 v7 v8)).alloc (oQ2 v9 v10 v11 v12 v13)).alloc (oQ0 v14 v15 v16)).alloc (zQ1))=W):W.cell? ⟨w.heap.size,0,none⟩=some (.int .i64 v0)/\W.cell? ⟨w.heap.size,1,none⟩=some (.int .i64 v1)/\W.cell? ⟨w.heap.size,2,none⟩=some (.int .i64 v2)/\W.cell? ⟨w.heap.size,3,none⟩=some (.int .i64 v3)/\W.cell? ⟨w.heap.size,4,none⟩=some (.int .i64 v4)/\W.cell? ⟨w.heap.size,5,none⟩=some (.slice v5 v6 v7)/\W.cell? ⟨w.heap.size,6,none⟩=some (.int .i64 v8)/\W.cell? ⟨w.heap.size+1,0,none⟩=some (.int .i64 v9)/\W.cell? ⟨w.heap.size+1,1,none⟩=some (.int .i64 v10)/\W.cell? ⟨w.heap.size+1,2,none⟩=some (.int .i64 v11)/\W.cell? ⟨w.heap.size+1,3,none⟩=some (.int .i64 v12)/\W.cell? ⟨w.heap.size+1,4,none⟩=some (.int .i64 v13)/\W.cell? ⟨w.heap.size+1+1,0,none⟩=some (.int .i64 v14)/\W.cell? ⟨w.heap.size+1+1,1,none⟩=some (.int .i64 v15)/\W.cell? ⟨w.heap.size+1+1,2,none⟩=some (.int .i64 v16)/\W.cell? ⟨w.heap.size+1+1+1,0,none⟩=some (.int .i64 0)/\W.cell? ⟨w.heap.size+1+1+1,1,none⟩=some (.int .i64 0)/\W.cell? ⟨w.heap.size+1+1+1,2,none⟩=some (.int .i64 0)/\W.cell? ⟨w.heap.size+1+1+1,3,none⟩=some (.int .i64 0)/\W.cell? ⟨w.heap.size+1+1+1,4,none⟩=some (.int .i64 0)/\W.cell? ⟨w.heap.size+1+1+1,5,none⟩=some nS/\W.cell? ⟨w.heap.size+1+1+1,6,none⟩=some (.int .i64 0)/\(∀ j,W.frozen? ⟨w.heap.size+1+1+1,j,none⟩=false)/\w.heap.size+1+1+1<W.heap.size/\Below w.heap.size w W:=by
 subst hW;exact ⟨(zQ _ _ (by simp<;>omega)).trans ((zQ _ _ (by simp<;>omega)).trans ((zQ _ _ (by simp)).trans (by simp))),(zQ _ _ (by simp<;>omega)).trans ((zQ _ _ (by simp<;>omega)).trans ((zQ _ _ (by simp)).trans (by simp))),(zQ _ _ (by simp<;>omega)).trans ((zQ _ _ (by simp<;>omega)).trans ((zQ _ _ (by simp)).trans (by simp))),(zQ _ _ (by simp<;>omega)).trans ((zQ _ _ (by simp<;>omega)).trans ((zQ _ _ (by simp)).trans (by simp))),(zQ _ _ (by simp<;>omega)).trans ((zQ _ _ (by simp<;>omega)).trans ((zQ _ _ (by simp)).trans (by simp))),(zQ _ _ (by simp<;>omega)).trans ((zQ _ _ (by simp<;>omega)).trans ((zQ _ _ (by simp)).trans (by simp))),(zQ _ _ (by simp<;>omega)).trans ((zQ _ _ (by simp<;>omega)).trans ((zQ _ _ (by simp)).trans (by simp))),(zQ _ _ (by simp<;>omega)).trans ((zQ _ _ (by simp)).trans (by simp)),(zQ _ _ (by simp<;>omega)).trans ((zQ _ _ (by simp)).trans (by simp)),(zQ _ _ (by simp<;>omega)).trans ((zQ _ _ (by simp)).trans (by simp)),(zQ _ _ (by simp<;>omega)).trans ((zQ _ _ (by simp)).trans (by simp)),(zQ _ _ (by simp<;>omega)).trans ((zQ _ _ (by simp)).trans (by simp)),(zQ _ _ (by simp)).trans (qaq _ _ _ 0 (by simp)),(zQ _ _ (by simp)).trans (qaq _ _ _ 1 (by simp)),(zQ _ _ (by simp)).trans (qaq _ _ _ 2 (by simp)),qaq _ _ _ 0 (by simp),qaq _ _ _ 1 (by simp),qaq _ _ _ 2 (by simp),qaq _ _ _ 3 (by simp),qaq _ _ _ 4 (by simp),qaq _ _ _ 5 (by simp),qaq _ _ _ 6 (by simp),fun j=>qdq _ _ _ j (by simp),by simp,by go_grown⟩
theorem ql2 (p a b c d:Int) (oa:Option Addr) (on oc:Nat) (code:Int) (jr ja jb:Nat) (n o k q v:Int) (w:World) (h0:0<=p) (h1:p<=1000000000) (hj:jr<4) (ha:ja<4) (hb:jb<4) (hlt:zi [a,b,c,d] ja<zi [a,b,c,d] jb):
  Calls prog 216 #[dV p a b c d oa on oc code,insV o jr ja jb n,evV k q v] w (rB w (dV (p+1) (set4 a b c d jr (1)).1 (set4 a b c d jr (1)).2.1 (set4 a b c d jr (1)).2.2.1 (set4 a b c d jr (1)).2.2.2 oa on oc code)):=by
 go_enter func216,ntmps216
 go_wp2_with fail
 generalize hW:((((w.alloc (oQ3 p a b c d oa on oc code)).alloc (oQ2 o jr ja jb n)).alloc (oQ0 k q v)).alloc (zQ1))=W at *;obtain ⟨k0,k1,k2,k3,k4,k5,k6,x0,x1,x2,x3,x4,y0,y1,y2,r0,r1,r2,r3,r4,r5,r6,rf,l3,BW'⟩:=qxq hW;have BW:Hid (Below w.heap.size w W):=BW';clear BW';clear hW;have l0:w.heap.size<W.heap.size:=by omega
 have l1:w.heap.size+1<W.heap.size:=by omega
 have l2:w.heap.size+1+1<W.heap.size:=by omega
 have ja':(ja:Int)<4:=by omega
 have ca:W.cell? ⟨w.heap.size,1+ja,none⟩=some (.int .i64 (zi [a,b,c,d] ja)):=by
  match ja,ha with
  | 0,_=>exact k1
  | 1,_=>exact k2
  | 2,_=>exact k3
  | 3,_=>exact k4
 have cb:W.cell? ⟨w.heap.size,1+jb,none⟩=some (.int .i64 (zi [a,b,c,d] jb)):=by
  match jb,hb with
  | 0,_=>exact k1
  | 1,_=>exact k2
  | 2,_=>exact k3
  | 3,_=>exact k4
 have jb':(jb:Int)<4:=by omega
 go_quiet (fail)
 go_wp2_with fail
 refine (qfb _ _ _ _ _ _ _ _ _ _ _ _ h0 h1 hj).mono ?_;rintro e w1 ⟨rfl,b1'⟩;have b1:Below W.heap.size W w1:=(yB (nE W.heap.size W) nq).trans b1';obtain ⟨hc1,hf1⟩:=qap b1;have B1:Hid (Below w.heap.size w w1):=BW.trans (b1.mono BW.size);clear b1 b1';go_wp2;refine bodyPost_ret (v:=dV (p+1) (set4 a b c d jr (1)).1 (set4 a b c d jr (1)).2.1 (set4 a b c d jr (1)).2.2.1 (set4 a b c d jr (1)).2.2.2 oa on oc code) (by simp [results,results216,go_sem,hc1,l3,r0,r1,r2,r3,r4,r5,r6]) rfl ⟨rfl,?_⟩;have:=B1.out
 go_grown
theorem qos (p a b c d:Int) (oa:Option Addr) (on oc:Nat) (code:Int) (jr ja jb:Nat) (n o k q v:Int) (w:World) (h0:0<=p) (h1:p<=1000000000) (hj:jr<4) (ha:ja<4) (hb:jb<4) (hlt:¬ zi [a,b,c,d] ja<zi [a,b,c,d] jb):
  Calls prog 216 #[dV p a b c d oa on oc code,insV o jr ja jb n,evV k q v] w (rB w (dV (p+1) (set4 a b c d jr (0)).1 (set4 a b c d jr (0)).2.1 (set4 a b c d jr (0)).2.2.1 (set4 a b c d jr (0)).2.2.2 oa on oc code)):=by
 go_enter func216,ntmps216
 go_wp2_with fail
 generalize hW:((((w.alloc (oQ3 p a b c d oa on oc code)).alloc (oQ2 o jr ja jb n)).alloc (oQ0 k q v)).alloc (zQ1))=W at *;obtain ⟨k0,k1,k2,k3,k4,k5,k6,x0,x1,x2,x3,x4,y0,y1,y2,r0,r1,r2,r3,r4,r5,r6,rf,l3,BW'⟩:=qxq hW;have BW:Hid (Below w.heap.size w W):=BW';clear BW';clear hW;have l0:w.heap.size<W.heap.size:=by omega
 have l1:w.heap.size+1<W.heap.size:=by omega
 have l2:w.heap.size+1+1<W.heap.size:=by omega
 have ja':(ja:Int)<4:=by omega
 have ca:W.cell? ⟨w.heap.size,1+ja,none⟩=some (.int .i64 (zi [a,b,c,d] ja)):=by
  match ja,ha with
  | 0,_=>exact k1
  | 1,_=>exact k2
  | 2,_=>exact k3
  | 3,_=>exact k4
 have cb:W.cell? ⟨w.heap.size,1+jb,none⟩=some (.int .i64 (zi [a,b,c,d] jb)):=by
  match jb,hb with
  | 0,_=>exact k1
  | 1,_=>exact k2
  | 2,_=>exact k3
  | 3,_=>exact k4
 have jb':(jb:Int)<4:=by omega
 go_quiet (fail)
 go_wp2_with fail
 refine (qfb _ _ _ _ _ _ _ _ _ _ _ _ h0 h1 hj).mono ?_;rintro e w1 ⟨rfl,b1'⟩;have b1:Below W.heap.size W w1:=(yB (nE W.heap.size W) nq).trans b1';obtain ⟨hc1,hf1⟩:=qap b1;have B1:Hid (Below w.heap.size w w1):=BW.trans (b1.mono BW.size);clear b1 b1';go_wp2;refine bodyPost_ret (v:=dV (p+1) (set4 a b c d jr (0)).1 (set4 a b c d jr (0)).2.1 (set4 a b c d jr (0)).2.2.1 (set4 a b c d jr (0)).2.2.2 oa on oc code) (by simp [results,results216,go_sem,hc1,l3,r0,r1,r2,r3,r4,r5,r6]) rfl ⟨rfl,?_⟩;have:=B1.out
 go_grown
theorem qyy {w W:World} {v0:Int} {v1:Int} {v2:Int} {v3:Int} {v4:Int} {v5:Option Addr} {v6:Nat} {v7:Nat} {v8:Int} {v9:Int} {v10:Int} {v11:Int} {v12:Int} {v13:Int} {v14:Int} {v15:Int} {v16:Int} (hW:((((w.alloc (oQ3 v0 v1 v2 v3 v4 v5 v6 v7 v8)).alloc (oQ2 v9 v10 v11 v12 v13)).alloc (oQ0 v14 v15 v16)).alloc (zQ1))=W):W.cell? ⟨w.heap.size,0,none⟩=some (.int .i64 v0)/\W.cell? ⟨w.heap.size,1,none⟩=some (.int .i64 v1)/\W.cell? ⟨w.heap.size,2,none⟩=some (.int .i64 v2)/\W.cell? ⟨w.heap.size,3,none⟩=some (.int .i64 v3)/\W.cell? ⟨w.heap.size,4,none⟩=some (.int .i64 v4)/\W.cell? ⟨w.heap.size,5,none⟩=some (.slice v5 v6 v7)/\W.cell? ⟨w.heap.size,6,none⟩=some (.int .i64 v8)/\W.cell? ⟨w.heap.size+1,0,none⟩=some (.int .i64 v9)/\W.cell? ⟨w.heap.size+1,1,none⟩=some (.int .i64 v10)/\W.cell? ⟨w.heap.size+1,2,none⟩=some (.int .i64 v11)/\W.cell? ⟨w.heap.size+1,3,none⟩=some (.int .i64 v12)/\W.cell? ⟨w.heap.size+1,4,none⟩=some (.int .i64 v13)/\W.cell? ⟨w.heap.size+1+1,0,none⟩=some (.int .i64 v14)/\W.cell? ⟨w.heap.size+1+1,1,none⟩=some (.int .i64 v15)/\W.cell? ⟨w.heap.size+1+1,2,none⟩=some (.int .i64 v16)/\W.cell? ⟨w.heap.size+1+1+1,0,none⟩=some (.int .i64 0)/\W.cell? ⟨w.heap.size+1+1+1,1,none⟩=some (.int .i64 0)/\W.cell? ⟨w.heap.size+1+1+1,2,none⟩=some (.int .i64 0)/\W.cell? ⟨w.heap.size+1+1+1,3,none⟩=some (.int .i64 0)/\W.cell? ⟨w.heap.size+1+1+1,4,none⟩=some (.int .i64 0)/\W.cell? ⟨w.heap.size+1+1+1,5,none⟩=some nS/\W.cell? ⟨w.heap.size+1+1+1,6,none⟩=some (.int .i64 0)/\(∀ j,W.frozen? ⟨w.heap.size+1+1+1,j,none⟩=false)/\w.heap.size+1+1+1<W.heap.size/\Below w.heap.size w W/\(∀ j,W.frozen? ⟨w.heap.size,j,none⟩=false):=by
 subst hW;exact ⟨(zQ _ _ (by simp<;>omega)).trans ((zQ _ _ (by simp<;>omega)).trans ((zQ _ _ (by simp)).trans (by simp))),(zQ _ _ (by simp<;>omega)).trans ((zQ _ _ (by simp<;>omega)).trans ((zQ _ _ (by simp)).trans (by simp))),(zQ _ _ (by simp<;>omega)).trans ((zQ _ _ (by simp<;>omega)).trans ((zQ _ _ (by simp)).trans (by simp))),(zQ _ _ (by simp<;>omega)).trans ((zQ _ _ (by simp<;>omega)).trans ((zQ _ _ (by simp)).trans (by simp))),(zQ _ _ (by simp<;>omega)).trans ((zQ _ _ (by simp<;>omega)).trans ((zQ _ _ (by simp)).trans (by simp))),(zQ _ _ (by simp<;>omega)).trans ((zQ _ _ (by simp<;>omega)).trans ((zQ _ _ (by simp)).trans (by simp))),(zQ _ _ (by simp<;>omega)).trans ((zQ _ _ (by simp<;>omega)).trans ((zQ _ _ (by simp)).trans (by simp))),(zQ _ _ (by simp<;>omega)).trans ((zQ _ _ (by simp)).trans (by simp)),(zQ _ _ (by simp<;>omega)).trans ((zQ _ _ (by simp)).trans (by simp)),(zQ _ _ (by simp<;>omega)).trans ((zQ _ _ (by simp)).trans (by simp)),(zQ _ _ (by simp<;>omega)).trans ((zQ _ _ (by simp)).trans (by simp)),(zQ _ _ (by simp<;>omega)).trans ((zQ _ _ (by simp)).trans (by simp)),(zQ _ _ (by simp)).trans (qaq _ _ _ 0 (by simp)),(zQ _ _ (by simp)).trans (qaq _ _ _ 1 (by simp)),(zQ _ _ (by simp)).trans (qaq _ _ _ 2 (by simp)),qaq _ _ _ 0 (by simp),qaq _ _ _ 1 (by simp),qaq _ _ _ 2 (by simp),qaq _ _ _ 3 (by simp),qaq _ _ _ 4 (by simp),qaq _ _ _ 5 (by simp),qaq _ _ _ 6 (by simp),fun j=>qdq _ _ _ j (by simp),by simp,by go_grown,fun j=>((qap (zS _ _)).2 _ _ (by simp<;>omega)).trans (((qap (zS _ _)).2 _ _ (by simp<;>omega)).trans (((qap (zS _ _)).2 _ _ (by simp)).trans (qdq _ _ _ j rfl)))⟩
theorem qt8 (p a b c d:Int) (oa:Option Addr) (oc:Nat) (os:List Int) (code:Int) (jr ja jb:Nat) (n o k q v:Int) (B:Nat) (w:World) (h0:0<=p) (h1:p<=1000000000) (hn:os.length<=1048576) (hB:B<=w.heap.size) (hO:OwnI w B (.slice oa os.length oc) os):
  Calls prog 219 #[dV p a b c d oa os.length oc code,insV o jr ja jb n,evV k q v] w fun e w'=>∃ oa' oc',e=.returned (dV (p+1) a b c d oa' (os.length+1) oc' code)/\OwnI w' B (.slice oa' (os.length+1) oc') (os ++ [v])/\OwnI w' B (.slice oa os.length oc) os/\w.grownBy w' (Value.slice oa os.length oc).ownBlock/\∀ j,(Value.slice oa' (os.length+1) oc').ownBlock=some j->(Value.slice oa os.length oc).ownBlock=some j\/w.heap.size<=j:=by
 have HO:Hid (OwnI w B (.slice oa os.length oc) os):=hO;have LO:Hid (∀ j,(Value.slice oa os.length oc).ownBlock=some j->j<w.heap.size):=fun j hj=>(hO.lt j hj).2;clear hO
 go_enter func219,ntmps219
 go_wp2_with (at_builtin;refine qdn rfl ?_)
 unfold STOP;generalize hW:((((w.alloc (oQ3 p a b c d oa os.length oc code)).alloc (oQ2 o jr ja jb n)).alloc (oQ0 k q v)).alloc (zQ1))=W at *;obtain ⟨k0,k1,k2,k3,k4,k5,k6,x0,x1,x2,x3,x4,y0,y1,y2,r0,r1,r2,r3,r4,r5,r6,rf,l3,BW',kf⟩:=qyy hW;have BW:Hid (Below w.heap.size w W):=BW';clear BW'
 have HZ:Hid (w.heap.size+1+1+1+1=W.heap.size):=by
  subst hW;show _=_;simp
 clear hW;have hy:(W.alloc (.cells #[.int .i64 v] 3)).cell? ⟨w.heap.size+1+1+1+1,0,none⟩=some (.int .i64 v):=qaq _ _ _ 0 (by rw [HZ.out]);have bA:=zS W (.cells #[.int .i64 v] 3);refine qgc _ rfl _ _ rfl B 1 (.slice oa os.length oc) ⟨w.heap.size+1+1+1+1,0,none⟩ os v rfl rfl ((HO.bw BW.out).bw bA) hy hn (by have:=BW.size;simp;omega) ?_;intro v1 w1 o1 p1 g1 at1
 obtain ⟨G,cap,hv1⟩:∃ G cap,v1=.slice (some ⟨G,0,none⟩) (os.length+1) cap:=by
  rcases o1.2 with ⟨rfl,e0⟩ | ⟨G,cap,cur,rfl,_⟩
  ·simp at e0
  ·exact ⟨G,cap,by simp⟩
 subst hv1;have zA:(W.alloc (.cells #[.int .i64 v] 3)).heap.size=W.heap.size+1:=by simp
 have hz:=HZ.out
 have nR:∀ j,w.heap.size<=j->some j≠(Value.slice oa os.length oc).ownBlock:=fun j hj h=>by
  have:=LO.out j h.symm;omega
 have e0:=qhn g1 (b:=w.heap.size) (by omega) (nR _ (by omega));have e3:=qhn g1 (b:=w.heap.size+1+1+1) (by omega) (nR _ (by omega));have q0:=(e0.1 0).trans ((zQ _ _ (by omega)).trans k0);have q1:=(e0.1 1).trans ((zQ _ _ (by omega)).trans k1);have q2:=(e0.1 2).trans ((zQ _ _ (by omega)).trans k2);have q3:=(e0.1 3).trans ((zQ _ _ (by omega)).trans k3);have q4:=(e0.1 4).trans ((zQ _ _ (by omega)).trans k4);have q5:=(e0.1 5).trans ((zQ _ _ (by omega)).trans k5);have q6:=(e0.1 6).trans ((zQ _ _ (by omega)).trans k6);have qf:=(e0.2 5).trans (((qap bA).2 _ _ (by omega)).trans (kf 5));have s0:=(e3.1 0).trans ((zQ _ _ l3).trans r0);have s1:=(e3.1 1).trans ((zQ _ _ l3).trans r1);have s2:=(e3.1 2).trans ((zQ _ _ l3).trans r2);have s3:=(e3.1 3).trans ((zQ _ _ l3).trans r3);have s4:=(e3.1 4).trans ((zQ _ _ l3).trans r4);have s5:=(e3.1 5).trans ((zQ _ _ l3).trans r5);have s6:=(e3.1 6).trans ((zQ _ _ l3).trans r6);have sf:=fun j=>(e3.2 j).trans (((qap bA).2 _ _ l3).trans (rf j));have z1:w.heap.size+1+1+1+1<w1.heap.size:=by have:=g1.size;omega
 have GW:Hid (w.grownBy w1 (Value.slice oa os.length oc).ownBlock):=(qbt (zY (BW.trans (bA.mono BW.size))) _).trans g1
 have A2:Hid (∀ j,(Value.slice (some ⟨G,0,none⟩) (os.length+1) cap).ownBlock=some j->(Value.slice oa os.length oc).ownBlock=some j\/w.heap.size<=j):=by
  intro j h5
  rcases at1 with h8 | h8
  ·exact .inl (h8.symm.trans h5)
  ·rw [h5] at h8
   simp only [nG] at h8;exact .inr (by omega)
 have AT:Hid (∀ j,w.heap.size<=j->j<w.heap.size+1+1+1+1->(Value.slice (some ⟨G,0,none⟩) (os.length+1) cap).ownBlock≠some j):=by
  intro j h5 h6 h7
  rcases at1 with h8 | h8
  ·exact nR j h5 (h7.symm.trans h8)
  ·rw [h7] at h8
   simp only [nG] at h8;omega
 clear hz HZ zA bA g1 e0 e3 k0 k1 k2 k3 k4 k5 k6 kf r0 r1 r2 r3 r4 r5 r6 rf l3 x0 x1 x2 x3 x4 y0 y1 y2 BW hy;have O1:Hid (OwnI w1 B _ _):=o1;have P1:Hid (OwnI w1 B _ _):=p1;clear o1 p1 at1;go_wp2_with fail
 refine (qcl _ _ _ _ _ _ _ _ _ _ h0 h1).mono ?_;rintro e w2 ⟨rfl,b2⟩;obtain ⟨hc2,hf2⟩:=qap b2;have zz:(w1.setCell ⟨w.heap.size,5,none⟩ (sG G (os.length+1) cap)).heap.size=w1.heap.size:=by simp
 have l3:w.heap.size+1+1+1<(w1.setCell ⟨w.heap.size,5,none⟩ (sG G (os.length+1) cap)).heap.size:=by omega
 have gS:=zU (p:=⟨w.heap.size,5,none⟩) (World.grownBy.refl w1 (some w.heap.size)) (.inl rfl) (sG G (os.length+1) cap);have e3:=qhn gS (b:=w.heap.size+1+1+1) (by omega) (by simp;omega);have t0:=(hc2 _ 0 l3).trans ((e3.1 0).trans s0);have t1:=(hc2 _ 1 l3).trans ((e3.1 1).trans s1);have t2:=(hc2 _ 2 l3).trans ((e3.1 2).trans s2);have t3:=(hc2 _ 3 l3).trans ((e3.1 3).trans s3);have t4:=(hc2 _ 4 l3).trans ((e3.1 4).trans s4);have t5:=(hc2 _ 5 l3).trans ((e3.1 5).trans s5);have t6:=(hc2 _ 6 l3).trans ((e3.1 6).trans s6);have tf:=fun j=>(hf2 _ j l3).trans ((e3.2 j).trans (sf j));have O2:Hid (OwnI w2 B _ _):=(O1.setOther (p:=⟨w.heap.size,5,none⟩) (AT.out _ (by simp) (by simp;omega)) _).bw b2;have P2:Hid (OwnI w2 B _ _):=(P1.setOther (p:=⟨w.heap.size,5,none⟩) (fun h=>nR _ (by simp) h.symm) _).bw b2;have G2:Hid (w.grownBy w2 (Value.slice oa os.length oc).ownBlock):=(zU (p:=⟨w.heap.size,5,none⟩) GW.out (.inr (by simp)) _).trans (qbt (zY b2) _);have A3:Hid ((Value.slice (some ⟨G,0,none⟩) (os.length+1) cap).ownBlock≠some (w.heap.size+1+1+1)):=AT.out _ (by omega) (by omega);have N3:Hid ((Value.slice oa os.length oc).ownBlock≠some (w.heap.size+1+1+1)):=fun h=>nR _ (by omega) h.symm;clear b2 hc2 hf2 zz l3 gS e3 s0 s1 s2 s3 s4 s5 s6 sf q0 q1 q2 q3 q4 q5 q6 qf O1 P1 GW AT nR;go_wp2_with fail
 refine bodyPost_ret (v:=dV (p+1) a b c d (some ⟨G,0,none⟩) (os.length+1) cap code) (by simp [results,results219,go_sem,t0,t1,t2,t3,t4,t5,t6]) rfl ⟨_,_,rfl,?_,?_,?_,A2.out⟩
 ·repeat (refine OwnI.setOther ?_ A3.out _)
  exact O2.out
 ·repeat (refine OwnI.setOther ?_ N3.out _)
  exact P2.out
 ·repeat (refine zU ?_ (.inr (by simp;omega)) _)
  exact G2.out
theorem qig (nk np nv k q v:Int) (w:World):
  Calls prog 167 #[evV nk np nv,evV k q v] w (rB w (.bool (canB nk np nv k q v))):=by
 have he:=fun wx=>qy5 k q v nk np nv wx;by_cases c1:nk=3
 case neg=>
  have c1':(nk != 3)=true:=by simpa using c1
  by_cases c2:nk=0
  ·subst c2
   have hv:Hid (canB 0 np nv k q v=false):=by simp [Hid,canB]
   go_enter func167,ntmps167
   go_wp2_with (first|(go_at_call 211;refine (isNum_any _ _).mono ?_;rintro e w' ⟨rfl,rfl⟩)|(go_at_call 27;refine (isBelow_any _ _ _).mono ?_;rintro e w' ⟨rfl,rfl⟩))
   refine bodyPost_ret (v:=.bool (false)) (by simp [results,results167,go_sem]) rfl ⟨by rw [hv.out],?_⟩
   go_grown
  ·have c2':(nk != 0)=true:=by simpa using c2
   have hv:Hid (canB nk np nv k q v=qeq k q v nk np nv):=by simp [Hid,canB,qeq,c1,c2']
   clear c1 c2
   go_enter func167,ntmps167
   go_wp2_with (first|(go_at_call 211;refine (isNum_any _ _).mono ?_;rintro e w' ⟨rfl,rfl⟩)|(go_at_call 27;refine (isBelow_any _ _ _).mono ?_;rintro e w' ⟨rfl,rfl⟩))
   refine bodyPost_ret (v:=.bool (qeq k q v nk np nv)) (by simp [results,results167,go_sem]) rfl ⟨by rw [hv.out],?_⟩
   go_grown
 subst c1;by_cases c2:k=3
 case neg=>
  have c2':(k != 3)=true:=by simpa using c2
  have hv:Hid (canB 3 np nv k q v=false):=by simp [Hid,canB,c2]
  clear c2
  go_enter func167,ntmps167
  go_wp2_with (first|(go_at_call 211;refine (isNum_any _ _).mono ?_;rintro e w' ⟨rfl,rfl⟩)|(go_at_call 27;refine (isBelow_any _ _ _).mono ?_;rintro e w' ⟨rfl,rfl⟩))
  refine bodyPost_ret (v:=.bool (false)) (by simp [results,results167,go_sem]) rfl ⟨by rw [hv.out],?_⟩
  go_grown
 subst c2
 rcases zK (numB v) with c3 | c3
 case inr=>
  have hv:Hid (canB 3 np nv 3 q v=false):=by simp [Hid,canB,c3]
  have c3':inB v (-1000000000) 1000000000=false:=c3;clear c3
  go_enter func167,ntmps167
  go_wp2_with (first|(go_at_call 211;refine (isNum_any _ _).mono ?_;rintro e w' ⟨rfl,rfl⟩)|(go_at_call 27;refine (isBelow_any _ _ _).mono ?_;rintro e w' ⟨rfl,rfl⟩))
  refine bodyPost_ret (v:=.bool (false)) (by simp [results,results167,go_sem]) rfl ⟨by rw [hv.out],?_⟩
  go_grown
 by_cases c4:np=9
 ·subst c4
  have hv:Hid (canB 3 9 nv 3 q v=belB q 4):=by simp [Hid,canB,c3]
  have c3':inB v (-1000000000) 1000000000=true:=c3;clear c3
  go_enter func167,ntmps167
  go_wp2_with (first|(go_at_call 211;refine (isNum_any _ _).mono ?_;rintro e w' ⟨rfl,rfl⟩)|(go_at_call 27;refine (isBelow_any _ _ _).mono ?_;rintro e w' ⟨rfl,rfl⟩))
  refine bodyPost_ret (v:=.bool (belB q 4)) (by simp [results,results167,go_sem]) rfl ⟨by rw [hv.out],?_⟩
  go_grown
 ·have c4':(np == 9)=false:=by simpa using c4
  have hv:Hid (canB 3 np nv 3 q v=(q == np)):=by simp [Hid,canB,c3,c4]
  have c3':inB v (-1000000000) 1000000000=true:=c3;clear c3 c4
  go_enter func167,ntmps167
  go_wp2_with (first|(go_at_call 211;refine (isNum_any _ _).mono ?_;rintro e w' ⟨rfl,rfl⟩)|(go_at_call 27;refine (isBelow_any _ _ _).mono ?_;rintro e w' ⟨rfl,rfl⟩))
  refine bodyPost_ret (v:=.bool (q == np)) (by simp [results,results167,go_sem]) rfl ⟨by rw [hv.out],?_⟩
  go_grown
open Go.Sort
theorem qhy (a b c d a' b' c' d':Int) (w:World):(binOp .neq 203 (regV a b c d) (regV a' b' c' d')).run prog w=.ok (.bool (!qof a b c d a' b' c' d')) w:=by
 have h:=qkx a b c d a' b' c' d' w;simp only [binOp,Sem.run_bind,Sem.run_pure] at h ⊢
 revert h
 generalize Sem.run prog (Op.equal 203 (regV a b c d) (regV a' b' c' d')) w=r;cases r <;> simp (config:={ contextual:=true }) [Result.andThen]
theorem qri {w W:World} {v0:Int} {v1:Int} {v2:Int} {v3:Int} {v4:Int} {v5:Option Addr} {v6:Nat} {v7:Nat} {v8:Int} {v9:Int} {v10:Int} {v11:Int} {v12:Int} {v13:Int} {v14:Option Addr} {v15:Nat} {v16:Nat} {v17:Int} (hW:(((w.alloc (oQ3 v0 v1 v2 v3 v4 v5 v6 v7 v8)).alloc (oQ3 v9 v10 v11 v12 v13 v14 v15 v16 v17)).alloc (zQ1))=W):W.cell? ⟨w.heap.size,0,none⟩=some (.int .i64 v0)/\W.cell? ⟨w.heap.size,1,none⟩=some (.int .i64 v1)/\W.cell? ⟨w.heap.size,2,none⟩=some (.int .i64 v2)/\W.cell? ⟨w.heap.size,3,none⟩=some (.int .i64 v3)/\W.cell? ⟨w.heap.size,4,none⟩=some (.int .i64 v4)/\W.cell? ⟨w.heap.size,5,none⟩=some (.slice v5 v6 v7)/\W.cell? ⟨w.heap.size,6,none⟩=some (.int .i64 v8)/\W.cell? ⟨w.heap.size+1,0,none⟩=some (.int .i64 v9)/\W.cell? ⟨w.heap.size+1,1,none⟩=some (.int .i64 v10)/\W.cell? ⟨w.heap.size+1,2,none⟩=some (.int .i64 v11)/\W.cell? ⟨w.heap.size+1,3,none⟩=some (.int .i64 v12)/\W.cell? ⟨w.heap.size+1,4,none⟩=some (.int .i64 v13)/\W.cell? ⟨w.heap.size+1,5,none⟩=some (.slice v14 v15 v16)/\W.cell? ⟨w.heap.size+1,6,none⟩=some (.int .i64 v17)/\W.cell? ⟨w.heap.size+1+1,0,none⟩=some (.int .i64 0)/\W.cell? ⟨w.heap.size+1+1,1,none⟩=some (.int .i64 0)/\W.cell? ⟨w.heap.size+1+1,2,none⟩=some (.int .i64 0)/\W.cell? ⟨w.heap.size+1+1,3,none⟩=some (.int .i64 0)/\W.cell? ⟨w.heap.size+1+1,4,none⟩=some (.int .i64 0)/\W.cell? ⟨w.heap.size+1+1,5,none⟩=some nS/\W.cell? ⟨w.heap.size+1+1,6,none⟩=some (.int .i64 0)/\(∀ j,W.frozen? ⟨w.heap.size,j,none⟩=false)/\(∀ j,W.frozen? ⟨w.heap.size+1,j,none⟩=false)/\(∀ j,W.frozen? ⟨w.heap.size+1+1,j,none⟩=false)/\w.heap.size+1+1<W.heap.size/\Below w.heap.size w W:=by
 subst hW;exact ⟨(zQ _ _ (by simp<;>omega)).trans ((zQ _ _ (by simp)).trans (by simp)),(zQ _ _ (by simp<;>omega)).trans ((zQ _ _ (by simp)).trans (by simp)),(zQ _ _ (by simp<;>omega)).trans ((zQ _ _ (by simp)).trans (by simp)),(zQ _ _ (by simp<;>omega)).trans ((zQ _ _ (by simp)).trans (by simp)),(zQ _ _ (by simp<;>omega)).trans ((zQ _ _ (by simp)).trans (by simp)),(zQ _ _ (by simp<;>omega)).trans ((zQ _ _ (by simp)).trans (by simp)),(zQ _ _ (by simp<;>omega)).trans ((zQ _ _ (by simp)).trans (by simp)),(zQ _ _ (by simp)).trans (zV _ _ _ 0 (by simp)),(zQ _ _ (by simp)).trans (zV _ _ _ 1 (by simp)),(zQ _ _ (by simp)).trans (zV _ _ _ 2 (by simp)),(zQ _ _ (by simp)).trans (zV _ _ _ 3 (by simp)),(zQ _ _ (by simp)).trans (zV _ _ _ 4 (by simp)),(zQ _ _ (by simp)).trans (zV _ _ _ 5 (by simp)),(zQ _ _ (by simp)).trans (zV _ _ _ 6 (by simp)),zV _ _ _ 0 (by simp),zV _ _ _ 1 (by simp),zV _ _ _ 2 (by simp),zV _ _ _ 3 (by simp),zV _ _ _ 4 (by simp),zV _ _ _ 5 (by simp),zV _ _ _ 6 (by simp),fun j=>((qap (zS _ _)).2 _ _ (by simp<;>omega)).trans (((qap (zS _ _)).2 _ _ (by simp)).trans (yA _ _ _ j rfl)),fun j=>((qap (zS _ _)).2 _ _ (by simp)).trans (yA _ _ _ j (by simp)),fun j=>yA _ _ _ j (by simp),by simp,by go_grown⟩
theorem qok (p a b c d:Int) (oa:Option Addr) (on oc:Nat) (code:Int) (p' a' b' c' d':Int) (oa':Option Addr) (on' oc':Nat) (code':Int) (n:Nat) (w:World) (hr:qc2 [a',b',c',d']=false):
  Calls prog 170 #[dV p a b c d oa on oc code,dV p' a' b' c' d' oa' on' oc' code',.int .i64 n] w (rB w (dV p a b c d oa on oc 2)):=by
 have he:∀ wx,(binOp .neq 203 (regV a' b' c' d') (regV (qbn a') (qbn b') (qbn c') (qbn d'))).run prog wx=.ok (.bool true) wx:=fun wx=>by rw [qhy,qca,hr];rfl
 go_enter func170,ntmps170
 go_wp2_with fail
 generalize hW:(((w.alloc (oQ3 p a b c d oa on oc code)).alloc (oQ3 p' a' b' c' d' oa' on' oc' code')).alloc (zQ1))=W at *;obtain ⟨k0,k1,k2,k3,k4,k5,k6,x0,x1,x2,x3,x4,x5,x6,r0,r1,r2,r3,r4,r5,r6,kf,xf,rf,l2,BW'⟩:=qri hW;have BW:Hid (Below w.heap.size w W):=BW';clear BW';clear hW;have l0:w.heap.size<W.heap.size:=by omega
 have l1:w.heap.size+1<W.heap.size:=by omega
 have x0':=cell_regrown x0;have x1':=cell_regrown x1;have x2':=cell_regrown x2;have x3':=cell_regrown x3;have x4':=cell_regrown x4;have x5':=cell_regrown x5;have x6':=cell_regrown x6;refine wp_region_quiet_below (by kernel_rfl) (by kernel_rfl) ?_
 repeat (quiet_step (first|(go_at_call 208;exact Calls.regrown_of (qc4 _ _ _ _ _))))
 refine wpQuiet_nil ?_;intro _ hw';obtain ⟨⟨dq,osq⟩,hw''⟩:=hw';subst hw'';have b3:=below_regrown W dq osq;have B3:Hid (Below w.heap.size w (grow (redrawn W dq) osq)):=BW.trans (b3.mono BW.size);obtain ⟨hc3,hf3⟩:=qap b3;generalize grow (redrawn W dq) osq=w3 at *;clear b3 x0' x1' x2' x3' x4' x5' x6' he BW hr;go_wp2_with (go_at_call 27;refine (isBelow_any _ _ _).mono ?_;rintro e w' ⟨rfl,rfl⟩)
 refine bodyPost_ret (v:=dV p a b c d oa on oc 2) (by simp [results,results170,go_sem,hc3,l2,r0,r1,r2,r3,r4,r5,r6]) rfl ⟨rfl,?_⟩;have:=B3.out
 go_grown
theorem qoi (p a b c d:Int) (oa:Option Addr) (on oc:Nat) (code:Int) (p' a' b' c' d':Int) (oa':Option Addr) (on' oc':Nat) (code':Int) (n:Nat) (w:World) (hr:qc2 [a',b',c',d']=true) (hn:(60:Int)<(on':Int)):
  Calls prog 170 #[dV p a b c d oa on oc code,dV p' a' b' c' d' oa' on' oc' code',.int .i64 n] w (rB w (dV p a b c d oa on oc 2)):=by
 have he:∀ wx,(binOp .neq 203 (regV a' b' c' d') (regV (qbn a') (qbn b') (qbn c') (qbn d'))).run prog wx=.ok (.bool false) wx:=fun wx=>by rw [qhy,qca,hr];rfl
 go_enter func170,ntmps170
 go_wp2_with fail
 generalize hW:(((w.alloc (oQ3 p a b c d oa on oc code)).alloc (oQ3 p' a' b' c' d' oa' on' oc' code')).alloc (zQ1))=W at *;obtain ⟨k0,k1,k2,k3,k4,k5,k6,x0,x1,x2,x3,x4,x5,x6,r0,r1,r2,r3,r4,r5,r6,kf,xf,rf,l2,BW'⟩:=qri hW;have BW:Hid (Below w.heap.size w W):=BW';clear BW';clear hW;have l0:w.heap.size<W.heap.size:=by omega
 have l1:w.heap.size+1<W.heap.size:=by omega
 have x0':=cell_regrown x0;have x1':=cell_regrown x1;have x2':=cell_regrown x2;have x3':=cell_regrown x3;have x4':=cell_regrown x4;have x5':=cell_regrown x5;have x6':=cell_regrown x6;refine wp_region_quiet_below (by kernel_rfl) (by kernel_rfl) ?_
 repeat (quiet_step (first|(go_at_call 208;exact Calls.regrown_of (qc4 _ _ _ _ _))))
 refine wpQuiet_nil ?_;intro _ hw';obtain ⟨⟨dq,osq⟩,hw''⟩:=hw';subst hw'';have b3:=below_regrown W dq osq;have B3:Hid (Below w.heap.size w (grow (redrawn W dq) osq)):=BW.trans (b3.mono BW.size);obtain ⟨hc3,hf3⟩:=qap b3;generalize grow (redrawn W dq) osq=w3 at *;clear b3 x0' x1' x2' x3' x4' x5' x6' he BW hr;go_wp2_with (go_at_call 27;refine (isBelow_any _ _ _).mono ?_;rintro e w' ⟨rfl,rfl⟩)
 refine bodyPost_ret (v:=dV p a b c d oa on oc 2) (by simp [results,results170,go_sem,hc3,l2,r0,r1,r2,r3,r4,r5,r6]) rfl ⟨rfl,?_⟩;have:=B3.out
 go_grown
theorem qqw (p a b c d:Int) (oa:Option Addr) (on oc:Nat) (code:Int) (p' a' b' c' d':Int) (oa':Option Addr) (on' oc':Nat) (code':Int) (n:Nat) (w:World) (hr:qc2 [a',b',c',d']=true) (hn:¬ (60:Int)<(on':Int)) (hp:belB p' n=false):
  Calls prog 170 #[dV p a b c d oa on oc code,dV p' a' b' c' d' oa' on' oc' code',.int .i64 n] w (rB w (dV p a' b' c' d' oa' on' oc' 2)):=by
 have he:∀ wx,(binOp .neq 203 (regV a' b' c' d') (regV (qbn a') (qbn b') (qbn c') (qbn d'))).run prog wx=.ok (.bool false) wx:=fun wx=>by rw [qhy,qca,hr];rfl
 go_enter func170,ntmps170
 go_wp2_with fail
 generalize hW:(((w.alloc (oQ3 p a b c d oa on oc code)).alloc (oQ3 p' a' b' c' d' oa' on' oc' code')).alloc (zQ1))=W at *;obtain ⟨k0,k1,k2,k3,k4,k5,k6,x0,x1,x2,x3,x4,x5,x6,r0,r1,r2,r3,r4,r5,r6,kf,xf,rf,l2,BW'⟩:=qri hW;have BW:Hid (Below w.heap.size w W):=BW';clear BW';clear hW;have l0:w.heap.size<W.heap.size:=by omega
 have l1:w.heap.size+1<W.heap.size:=by omega
 have x0':=cell_regrown x0;have x1':=cell_regrown x1;have x2':=cell_regrown x2;have x3':=cell_regrown x3;have x4':=cell_regrown x4;have x5':=cell_regrown x5;have x6':=cell_regrown x6;refine wp_region_quiet_below (by kernel_rfl) (by kernel_rfl) ?_
 repeat (quiet_step (first|(go_at_call 208;exact Calls.regrown_of (qc4 _ _ _ _ _))))
 refine wpQuiet_nil ?_;intro _ hw';obtain ⟨⟨dq,osq⟩,hw''⟩:=hw';subst hw'';have b3:=below_regrown W dq osq;have B3:Hid (Below w.heap.size w (grow (redrawn W dq) osq)):=BW.trans (b3.mono BW.size);obtain ⟨hc3,hf3⟩:=qap b3;generalize grow (redrawn W dq) osq=w3 at *;clear b3 x0' x1' x2' x3' x4' x5' x6' he BW hr;go_wp2_with (go_at_call 27;refine (isBelow_any _ _ _).mono ?_;rintro e w' ⟨rfl,rfl⟩)
 refine bodyPost_ret (v:=dV p a' b' c' d' oa' on' oc' 2) (by simp [results,results170,go_sem,hc3,l2,r0,r1,r2,r3,r4,r5,r6]) rfl ⟨rfl,?_⟩;have:=B3.out
 go_grown
theorem qt7 (p a b c d:Int) (oa:Option Addr) (on oc:Nat) (code:Int) (p' a' b' c' d':Int) (oa':Option Addr) (on' oc':Nat) (code':Int) (n:Nat) (w:World) (hr:qc2 [a',b',c',d']=true) (hn:¬ (60:Int)<(on':Int)) (hp:belB p' n=true):
  Calls prog 170 #[dV p a b c d oa on oc code,dV p' a' b' c' d' oa' on' oc' code',.int .i64 n] w (rB w (dV p' a' b' c' d' oa' on' oc' code')):=by
 have he:∀ wx,(binOp .neq 203 (regV a' b' c' d') (regV (qbn a') (qbn b') (qbn c') (qbn d'))).run prog wx=.ok (.bool false) wx:=fun wx=>by rw [qhy,qca,hr];rfl
 go_enter func170,ntmps170
 go_wp2_with fail
 generalize hW:(((w.alloc (oQ3 p a b c d oa on oc code)).alloc (oQ3 p' a' b' c' d' oa' on' oc' code')).alloc (zQ1))=W at *;obtain ⟨k0,k1,k2,k3,k4,k5,k6,x0,x1,x2,x3,x4,x5,x6,r0,r1,r2,r3,r4,r5,r6,kf,xf,rf,l2,BW'⟩:=qri hW;have BW:Hid (Below w.heap.size w W):=BW';clear BW';clear hW;have l0:w.heap.size<W.heap.size:=by omega
 have l1:w.heap.size+1<W.heap.size:=by omega
 have x0':=cell_regrown x0;have x1':=cell_regrown x1;have x2':=cell_regrown x2;have x3':=cell_regrown x3;have x4':=cell_regrown x4;have x5':=cell_regrown x5;have x6':=cell_regrown x6;refine wp_region_quiet_below (by kernel_rfl) (by kernel_rfl) ?_
 repeat (quiet_step (first|(go_at_call 208;exact Calls.regrown_of (qc4 _ _ _ _ _))))
 refine wpQuiet_nil ?_;intro _ hw';obtain ⟨⟨dq,osq⟩,hw''⟩:=hw';subst hw'';have b3:=below_regrown W dq osq;have B3:Hid (Below w.heap.size w (grow (redrawn W dq) osq)):=BW.trans (b3.mono BW.size);obtain ⟨hc3,hf3⟩:=qap b3;generalize grow (redrawn W dq) osq=w3 at *;clear b3 x0' x1' x2' x3' x4' x5' x6' he BW hr;go_wp2_with (go_at_call 27;refine (isBelow_any _ _ _).mono ?_;rintro e w' ⟨rfl,rfl⟩)
 refine bodyPost_ret (v:=dV p' a' b' c' d' oa' on' oc' code') (by simp [results,results170,go_sem,hc3,l2,r0,r1,r2,r3,r4,r5,r6]) rfl ⟨rfl,?_⟩;have:=B3.out
 go_grown
theorem qif (np nv k p v:Int):canB 3 np nv k p v=((k == 3) && numB v && (if np=9 then belB p 4 else p == np)):=by
 unfold canB;rw [nC rfl]
theorem qeg {nk:Int} (h3:nk≠3) (h0:nk≠0) (np nv k p v:Int):canB nk np nv k p v=qeq k p v nk np nv:=by
 unfold canB qeq;rw [nB h3];have:(nk != 0)=true:=by simp [h0]
 rw [this,Bool.true_and]
theorem qgg {a b c a' b' c':Int} (h:qeq a b c a' b' c'=true):a=a'/\b=b'/\c=c':=by
 simpa [qeq] using h
theorem qv1 {x:I5} {len:Int} (h:qaj x.o x.r x.a x.b x.n len 4=true) (h7:x.o=7):x.n=9\/(0<=x.n/\x.n<=3):=by
 simp only [qaj,nH] at h;have h5:=h.2;unfold qbb at h5;rw [h7] at h5;simp [inB] at h5;omega
def qdd (w:World) (s:S4) (t:Bool) (e:Ending) (w':World):Prop:=∃ v,e=.returned (.tuple #[v,.bool t])/\qag w' w.heap.size v s.p s.rs s.os s.c/\Below w.heap.size w w'
theorem qwv (b off len cap k:Nat) (g:Nat->I5) (ra oa:Option Addr) (rc oc:Nat) (rs os:List Int) (ek eq ev:Int) (w:World) (hb:b<w.heap.size) (hI:qao w b off len g) (h1:Sl w ra rs) (h2:Sl w oa os) (hR:qcj g len (k:Int) rs os 0=true):
  Calls prog 105 #[.slice (some ⟨b,off,none⟩) len cap,stV k ra rs.length rc oa os.length oc 0,evV ek eq ev] w (qdd w (doS g len k rs os 0 ek eq ev) (doB g len k rs os 0 ek eq ev)):=by
 obtain ⟨hp,hs,-⟩:=qbe hR;obtain ⟨⟨r0,r1,r2,r3,hrs,hn0,hn1,hn2,hn3⟩,⟨k',hkk,hk'⟩,h60,hall⟩:=qco hs;obtain rfl:k=k':=by omega
 have hk:=hk';have h4:rs.length=4:=by rw [hrs];rfl
 have hnum:allN rs=true:=by rw [hrs];simp [allN,hn0,hn1,hn2,hn3]
 have hl:(len:Int)<=30:=by
  simp only [qac,nH] at hp;have:=hp.2.1;simp [inB] at this;omega
 have hins:=qbw hp hk;obtain ⟨⟨o1,o11⟩,-⟩:=qce hins
 have hN:∀ K P V,evK (g k).o=K->evP (g k).o (g k).n=P->evW (g k).o (g k).a rs=V->doB g len k rs os 0 ek eq ev=canB K P V ek eq ev:=by
  intro K P V hK hP hV;unfold doB nxK nxP nxW;rw [nC hR,nC hR,nC hR,nF,hK,hP,hV]
 have hno:doB g len k rs os 0 ek eq ev=false->doS g len k rs os 0 ek eq ev=⟨k,rs,os,0⟩:=fun h=>by
  unfold doS;rw [nB (by rw [h];decide)]
 have hyes:doB g len k rs os 0 ek eq ev=true->doS g len k rs os 0 ek eq ev=qah len (g k) k rs os 0 ev:=fun h=>by
  unfold doS;rw [nC h,nF]
 by_cases h7:(g k).o=7
 ·have eK:evK (g k).o=3:=by rw [h7];rfl
  have eP:evP (g k).o (g k).n=(g k).n:=by rw [h7];rfl
  have eV:evW (g k).o (g k).a rs=0:=by rw [h7];rfl
  have hc:=hN _ _ _ eK eP eV;rw [qif] at hc;have HN:Hid (evK (g k).o=3/\evP (g k).o (g k).n=(g k).n/\evW (g k).o (g k).a rs=0):=⟨eK,eP,eV⟩
  rcases zK (ek == 3) with t1 | t1
  case inr=>
   rw [t1] at hc;rw [hc,hno hc];exact qc5 b off len cap k g ra oa rc oc rs os ek eq ev w hl hb hI h4 h60 h1 h2 hk hp _ _ HN (.inl (by simpa using t1))
  have t1':(ek != 3)=false:=by simpa using t1
  obtain rfl:ek=3:=by simpa using t1
  rcases zK (numB ev) with t2 | t2
  case inr=>
   rw [t2] at hc;rw [hc,hno hc];exact qc5 b off len cap k g ra oa rc oc rs os 3 eq ev w hl hb hI h4 h60 h1 h2 hk hp _ _ HN (.inr (.inl ⟨t1',t2⟩))
  rcases qv1 hins h7 with h9 | ⟨n0,n3⟩
  ·have t3:((g k).n != 9)=false:=by simp [h9]
   rw [t1,t2,h9,nC rfl] at hc;have hb4:inB eq 0 3=belB eq 4:=quy eq 4
   rcases zK (belB eq 4) with t5 | t5
   ·rw [t5] at hc
    rw [hc,hyes hc];exact qlc b off len cap k g ra oa rc oc rs os eq ev w hl hb hI h4 h60 h1 h2 hk hp _ _ HN h7 t2 t3 (hb4.trans t5)
   ·rw [t5] at hc
    rw [hc,hno hc];exact qc5 b off len cap k g ra oa rc oc rs os 3 eq ev w hl hb hI h4 h60 h1 h2 hk hp _ _ HN (.inr (.inr (.inr ⟨t1',t2,t3,hb4.trans t5⟩)))
  ·have t3:((g k).n != 9)=true:=by simp;omega
   rw [t1,t2,nB (by omega)] at hc
   rcases zK (eq == (g k).n) with t4 | t4
   ·have e4:eq=(g k).n:=by simpa using t4
    rw [t4] at hc;rw [hc,hyes hc];exact qld b off len cap k g ra oa rc oc rs os eq ev w hl hb hI h4 h60 h1 h2 hk hp _ _ HN h7 t2 t3 (by simpa using t4) (by simp [inB];omega)
   ·rw [t4] at hc
    rw [hc,hno hc];exact qc5 b off len cap k g ra oa rc oc rs os 3 eq ev w hl hb hI h4 h60 h1 h2 hk hp _ _ HN (.inr (.inr (.inl ⟨t1',t2,t3,by simpa using t4⟩)))
 by_cases h6:(g k).o=6
 ·have eK:evK (g k).o=2:=by rw [h6];rfl
  have hc:=hN _ _ _ eK rfl rfl;rw [qeg (by decide) (by decide)] at hc;have HN:Hid (evK (g k).o=2/\evP (g k).o (g k).n=evP (g k).o (g k).n/\evW (g k).o (g k).a rs=evW (g k).o (g k).a rs):=⟨eK,rfl,rfl⟩
  rcases zK (qeq ek eq ev 2 (evP (g k).o (g k).n) (evW (g k).o (g k).a rs)) with t | t
  ·obtain ⟨rfl,rfl,rfl⟩:=qgg t
   rw [t] at hc;rw [hc,hyes hc];exact qu8 b off len cap k g ra oa rc oc rs os w hl hb hI h4 h60 h1 h2 hk hp _ _ HN h6
  ·rw [t] at hc
   rw [hc,hno hc];exact qqb b off len cap k g ra oa rc oc rs os ek eq ev w hl hb hI h4 h60 h1 h2 hk hp 2 _ _ rfl HN t
 by_cases h8:(g k).o=8
 ·have eK:evK (g k).o=4:=by rw [h8];rfl
  have hc:=hN _ _ _ eK rfl rfl;rw [qeg (by decide) (by decide)] at hc;have HN:Hid (evK (g k).o=4/\evP (g k).o (g k).n=evP (g k).o (g k).n/\evW (g k).o (g k).a rs=evW (g k).o (g k).a rs):=⟨eK,rfl,rfl⟩
  rcases zK (qeq ek eq ev 4 (evP (g k).o (g k).n) (evW (g k).o (g k).a rs)) with t | t
  ·obtain ⟨rfl,rfl,rfl⟩:=qgg t
   rw [t] at hc;rw [hc,hyes hc];by_cases h:os.length=60
   ·exact qu7 b off len cap k g ra oa rc oc rs os w hl hb hI h4 h60 h1 h2 hk hp _ _ HN ⟨h8,h⟩ (by simp [h])
   ·exact qtb b off len cap k g ra oa rc oc rs os w hl hb hI h4 h60 h1 h2 hk hp _ _ HN ⟨h8,h⟩ (by simp;omega)
  ·rw [t] at hc
   rw [hc,hno hc];exact qqb b off len cap k g ra oa rc oc rs os ek eq ev w hl hb hI h4 h60 h1 h2 hk hp 4 _ _ rfl HN t
 have eK:evK (g k).o=1:=by unfold evK;rw [nB h6,nB h7,nB h8]
 have eV:evW (g k).o (g k).a rs=0:=by unfold evW;rw [nB h6,nB h8]
 have hc:=hN _ _ _ eK rfl eV;rw [qeg (by decide) (by decide)] at hc;have HN:Hid (evK (g k).o=1/\evP (g k).o (g k).n=evP (g k).o (g k).n/\evW (g k).o (g k).a rs=0):=⟨eK,rfl,eV⟩
 rcases zK (qeq ek eq ev 1 (evP (g k).o (g k).n) 0) with t | t
 ·obtain ⟨rfl,rfl,rfl⟩:=qgg t
  rw [t] at hc;rw [hc,hyes hc];exact qta b off len cap k g ra oa rc oc rs os w hl hb hI h4 h60 h1 h2 hk hp _ HN ⟨hnum,h6,h7,h8⟩
 ·rw [t] at hc
  rw [hc,hno hc];exact qqb b off len cap k g ra oa rc oc rs os ek eq ev w hl hb hI h4 h60 h1 h2 hk hp 1 _ _ rfl HN t
