import Derived.Test.YtkdablcbhhphoaaGreatDoorBk7
import Derived.Laws.EntriesVeiled
import Derived.Test.YtkdablcbhhphoaaGreatDoorBk8
namespace Go.Proofs.YtkdablcbhhphoaaGreatDoor
set_option maxRecDepth 100000
set_option maxHeartbeats 4000000
open Go.RowKit
theorem qao (w:World) (cs:Array Value) (t:TypeId) (j:Nat) {N:Nat} (h:N=w.heap.size):(w.alloc (.cells cs t)).cell? ⟨N,j,none⟩=cs[j]?:=by
 subst h;simp
theorem qdl (w:World) (cs:Array Value) (t:TypeId) (j:Nat) {N:Nat} (h:N=w.heap.size):(w.alloc (.cells cs t)).frozen? ⟨N,j,none⟩=false:=by
 subst h;simp
theorem qvj (a b c d:Int) (j:Nat) (v:Int) (hj:j<4):[(set4 a b c d j v).1,(set4 a b c d j v).2.1,(set4 a b c d j v).2.2.1,(set4 a b c d j v).2.2.2]=[a,b,c,d].set j v:=by
 match j,hj with
 | 0,_=>rfl
 | 1,_=>rfl
 | 2,_=>rfl
 | 3,_=>rfl
theorem qw7 (p a b c d:Int) (oa:Option Addr) (on oc:Nat) (code:Int) (jr ja jb:Nat) (n o k q v:Int) (w:World) (h0:0<=p) (h1:p<=1000000000) (hj:jr<4):
  Calls Tryz.prog 212 #[dV p a b c d oa on oc code,insV o jr ja jb n,evV k q v] w fun e w'=>e=.returned (dV (p+1) (set4 a b c d jr (n)).1 (set4 a b c d jr (n)).2.1 (set4 a b c d jr (n)).2.2.1 (set4 a b c d jr (n)).2.2.2 oa on oc code)/\Below w.heap.size w w':=by
 go_enter Tryz.func212,Tryz.ntmps212
 go_wp2_with fail
 refine (qe6 _ _ _ _ _ _ _ _ _ _ _ _ h0 h1 hj).mono ?_;rintro e w1 ⟨rfl,b1⟩;have B1:Hid (Below w.heap.size w w1):=qai (by go_grown) b1 (by simp;omega);obtain ⟨hc1,hf1⟩:=qap b1;clear b1;go_wp2;refine bodyPost_ret (v:=dV (p+1) (set4 a b c d jr (n)).1 (set4 a b c d jr (n)).2.1 (set4 a b c d jr (n)).2.2.1 (set4 a b c d jr (n)).2.2.2 oa on oc code) (by simp [results,Tryz.results212,go_sem,hc1]) rfl ⟨rfl,?_⟩;have:=B1.out
 go_grown
theorem qvo (p a b c d:Int) (oa:Option Addr) (on oc:Nat) (code:Int) (jr ja jb:Nat) (n o k q v:Int) (w:World) (h0:0<=p) (h1:p<=1000000000) (hj:jr<4):
  Calls Tryz.prog 218 #[dV p a b c d oa on oc code,insV o jr ja jb n,evV k q v] w fun e w'=>e=.returned (dV (p+1) (set4 a b c d jr (v)).1 (set4 a b c d jr (v)).2.1 (set4 a b c d jr (v)).2.2.1 (set4 a b c d jr (v)).2.2.2 oa on oc code)/\Below w.heap.size w w':=by
 go_enter Tryz.func218,Tryz.ntmps218
 go_wp2_with fail
 refine (qe6 _ _ _ _ _ _ _ _ _ _ _ _ h0 h1 hj).mono ?_;rintro e w1 ⟨rfl,b1⟩;have B1:Hid (Below w.heap.size w w1):=qai (by go_grown) b1 (by simp;omega);obtain ⟨hc1,hf1⟩:=qap b1;clear b1;go_wp2;refine bodyPost_ret (v:=dV (p+1) (set4 a b c d jr (v)).1 (set4 a b c d jr (v)).2.1 (set4 a b c d jr (v)).2.2.1 (set4 a b c d jr (v)).2.2.2 oa on oc code) (by simp [results,Tryz.results218,go_sem,hc1]) rfl ⟨rfl,?_⟩;have:=B1.out
 go_grown
theorem qvn (p a b c d:Int) (oa:Option Addr) (on oc:Nat) (code:Int) (jr ja jb:Nat) (n o k q v:Int) (w:World) (h0:0<=p) (h1:p<=1000000000):
  Calls Tryz.prog 217 #[dV p a b c d oa on oc code,insV o jr ja jb n,evV k q v] w fun e w'=>e=.returned (dV (p+1) a b c d oa on oc code)/\Below w.heap.size w w':=by
 go_enter Tryz.func217,Tryz.ntmps217
 go_wp2_with fail
 refine (qcj _ _ _ _ _ _ _ _ _ _ h0 h1).mono ?_;rintro e w1 ⟨rfl,b1⟩;have B1:Hid (Below w.heap.size w w1):=qai (by go_grown) b1 (by simp;omega);obtain ⟨hc1,hf1⟩:=qap b1;clear b1;go_wp2;refine bodyPost_ret (v:=dV (p+1) a b c d oa on oc code) (by simp [results,Tryz.results217,go_sem,hc1]) rfl ⟨rfl,?_⟩;have:=B1.out
 go_grown
theorem qol (p a b c d:Int) (oa:Option Addr) (on oc:Nat) (code:Int) (jr ja jb:Nat) (n o k q v:Int) (w:World) (_h0:0<=p) (_h1:p<=1000000000):
  Calls Tryz.prog 220 #[dV p a b c d oa on oc code,insV o jr ja jb n,evV k q v] w fun e w'=>e=.returned (dV n a b c d oa on oc code)/\Below w.heap.size w w':=by
 go_enter Tryz.func220,Tryz.ntmps220
 go_wp2;refine bodyPost_ret (v:=dV n a b c d oa on oc code) (by simp [results,Tryz.results220,go_sem]) rfl ⟨rfl,?_⟩
 go_grown
theorem qw5 (p a b c d:Int) (oa:Option Addr) (on oc:Nat) (code:Int) (jr ja jb:Nat) (n o k q v:Int) (w:World) (_h0:0<=p) (_h1:p<=1000000000):
  Calls Tryz.prog 222 #[dV p a b c d oa on oc code,insV o jr ja jb n,evV k q v] w fun e w'=>e=.returned (dV p a b c d oa on oc 1)/\Below w.heap.size w w':=by
 go_enter Tryz.func222,Tryz.ntmps222
 go_wp2;refine bodyPost_ret (v:=dV p a b c d oa on oc 1) (by simp [results,Tryz.results222,go_sem]) rfl ⟨rfl,?_⟩
 go_grown
theorem qub {w W:World} {v0:Int} {v1:Int} {v2:Int} {v3:Int} {v4:Int} {v5:Option Addr} {v6:Nat} {v7:Nat} {v8:Int} {v9:Int} {v10:Int} {v11:Int} {v12:Int} {v13:Int} {v14:Int} {v15:Int} {v16:Int} (hW:((((w.alloc (oQ2 v0 v1 v2 v3 v4 v5 v6 v7 v8)).alloc (oQ3 v9 v10 v11 v12 v13)).alloc (oQ0 v14 v15 v16)).alloc (zQ1))=W):W.cell? ⟨w.heap.size,0,none⟩=some (.int .i64 v0)/\W.cell? ⟨w.heap.size,1,none⟩=some (.int .i64 v1)/\W.cell? ⟨w.heap.size,2,none⟩=some (.int .i64 v2)/\W.cell? ⟨w.heap.size,3,none⟩=some (.int .i64 v3)/\W.cell? ⟨w.heap.size,4,none⟩=some (.int .i64 v4)/\W.cell? ⟨w.heap.size,5,none⟩=some (.slice v5 v6 v7)/\W.cell? ⟨w.heap.size,6,none⟩=some (.int .i64 v8)/\W.cell? ⟨w.heap.size+1,0,none⟩=some (.int .i64 v9)/\W.cell? ⟨w.heap.size+1,1,none⟩=some (.int .i64 v10)/\W.cell? ⟨w.heap.size+1,2,none⟩=some (.int .i64 v11)/\W.cell? ⟨w.heap.size+1,3,none⟩=some (.int .i64 v12)/\W.cell? ⟨w.heap.size+1,4,none⟩=some (.int .i64 v13)/\W.cell? ⟨w.heap.size+1+1,0,none⟩=some (.int .i64 v14)/\W.cell? ⟨w.heap.size+1+1,1,none⟩=some (.int .i64 v15)/\W.cell? ⟨w.heap.size+1+1,2,none⟩=some (.int .i64 v16)/\W.cell? ⟨w.heap.size+1+1+1,0,none⟩=some (.int .i64 0)/\W.cell? ⟨w.heap.size+1+1+1,1,none⟩=some (.int .i64 0)/\W.cell? ⟨w.heap.size+1+1+1,2,none⟩=some (.int .i64 0)/\W.cell? ⟨w.heap.size+1+1+1,3,none⟩=some (.int .i64 0)/\W.cell? ⟨w.heap.size+1+1+1,4,none⟩=some (.int .i64 0)/\W.cell? ⟨w.heap.size+1+1+1,5,none⟩=some (.slice none 0 0)/\W.cell? ⟨w.heap.size+1+1+1,6,none⟩=some (.int .i64 0)/\(∀ j,W.frozen? ⟨w.heap.size+1+1+1,j,none⟩=false)/\w.heap.size+1+1+1<W.heap.size/\Below w.heap.size w W:=by
 subst hW;exact ⟨(zQ _ _ (by simp<;>omega)).trans ((zQ _ _ (by simp<;>omega)).trans ((zQ _ _ (by simp)).trans (by simp))),(zQ _ _ (by simp<;>omega)).trans ((zQ _ _ (by simp<;>omega)).trans ((zQ _ _ (by simp)).trans (by simp))),(zQ _ _ (by simp<;>omega)).trans ((zQ _ _ (by simp<;>omega)).trans ((zQ _ _ (by simp)).trans (by simp))),(zQ _ _ (by simp<;>omega)).trans ((zQ _ _ (by simp<;>omega)).trans ((zQ _ _ (by simp)).trans (by simp))),(zQ _ _ (by simp<;>omega)).trans ((zQ _ _ (by simp<;>omega)).trans ((zQ _ _ (by simp)).trans (by simp))),(zQ _ _ (by simp<;>omega)).trans ((zQ _ _ (by simp<;>omega)).trans ((zQ _ _ (by simp)).trans (by simp))),(zQ _ _ (by simp<;>omega)).trans ((zQ _ _ (by simp<;>omega)).trans ((zQ _ _ (by simp)).trans (by simp))),(zQ _ _ (by simp<;>omega)).trans ((zQ _ _ (by simp)).trans (by simp)),(zQ _ _ (by simp<;>omega)).trans ((zQ _ _ (by simp)).trans (by simp)),(zQ _ _ (by simp<;>omega)).trans ((zQ _ _ (by simp)).trans (by simp)),(zQ _ _ (by simp<;>omega)).trans ((zQ _ _ (by simp)).trans (by simp)),(zQ _ _ (by simp<;>omega)).trans ((zQ _ _ (by simp)).trans (by simp)),(zQ _ _ (by simp)).trans (qao _ _ _ 0 (by simp)),(zQ _ _ (by simp)).trans (qao _ _ _ 1 (by simp)),(zQ _ _ (by simp)).trans (qao _ _ _ 2 (by simp)),qao _ _ _ 0 (by simp),qao _ _ _ 1 (by simp),qao _ _ _ 2 (by simp),qao _ _ _ 3 (by simp),qao _ _ _ 4 (by simp),qao _ _ _ 5 (by simp),qao _ _ _ 6 (by simp),fun j=>qdl _ _ _ j (by simp),by simp,by go_grown⟩
theorem qw4 (p a b c d:Int) (oa:Option Addr) (on oc:Nat) (code:Int) (jr ja jb:Nat) (n o k q v:Int) (w:World) (h0:0<=p) (h1:p<=1000000000) (hj:jr<4) (ha:ja<4) (hb:jb<4) (na1:-1000000000<=zi [a,b,c,d] ja) (na2:zi [a,b,c,d] ja<=1000000000) (nb1:-1000000000<=zi [a,b,c,d] jb) (nb2:zi [a,b,c,d] jb<=1000000000) (mb1:-1000000000000000000<=zi [a,b,c,d] ja*zi [a,b,c,d] jb) (mb2:zi [a,b,c,d] ja*zi [a,b,c,d] jb<=1000000000000000000):
  Calls Tryz.prog 213 #[dV p a b c d oa on oc code,insV o jr ja jb n,evV k q v] w fun e w'=>e=.returned (dV (p+1) (set4 a b c d jr (zi [a,b,c,d] ja+zi [a,b,c,d] jb)).1 (set4 a b c d jr (zi [a,b,c,d] ja+zi [a,b,c,d] jb)).2.1 (set4 a b c d jr (zi [a,b,c,d] ja+zi [a,b,c,d] jb)).2.2.1 (set4 a b c d jr (zi [a,b,c,d] ja+zi [a,b,c,d] jb)).2.2.2 oa on oc code)/\Below w.heap.size w w':=by
 go_enter Tryz.func213,Tryz.ntmps213
 go_wp2_with fail
 generalize hW:((((w.alloc (oQ2 p a b c d oa on oc code)).alloc (oQ3 o jr ja jb n)).alloc (oQ0 k q v)).alloc (zQ1))=W at *;obtain ⟨k0,k1,k2,k3,k4,k5,k6,x0,x1,x2,x3,x4,y0,y1,y2,r0,r1,r2,r3,r4,r5,r6,rf,l3,BW'⟩:=qub hW;have BW:Hid (Below w.heap.size w W):=BW';clear BW';clear hW;have l0:w.heap.size<W.heap.size:=by omega
 have l1:w.heap.size+1<W.heap.size:=by omega
 have l2:w.heap.size+1+1<W.heap.size:=by omega
 have ja':(ja:Int)<4:=by omega
 have ca:W.cell? ⟨w.heap.size,1+ja,none⟩=some (.int .i64 (zi [a,b,c,d] ja)):=by
  match ja,ha with
  | 0,_=>exact k1
  | 1,_=>exact k2
  | 2,_=>exact k3
  | 3,_=>exact k4
 have cb:W.cell? ⟨w.heap.size,1+jb,none⟩=some (.int .i64 (zi [a,b,c,d] jb)):=by
  match jb,hb with
  | 0,_=>exact k1
  | 1,_=>exact k2
  | 2,_=>exact k3
  | 3,_=>exact k4
 have jb':(jb:Int)<4:=by omega
 have hw:IntKind.i64.wrap (zi [a,b,c,d] ja+zi [a,b,c,d] jb)=zi [a,b,c,d] ja+zi [a,b,c,d] jb:=by rw [IntKind.wrap_i64];omega
 generalize hN3:w.heap.size+1+1+1=N3 at *;generalize hN2:w.heap.size+1+1=N2 at *;generalize hN1:w.heap.size+1=N1 at *;have ne1:w.heap.size≠N3:=by omega
 have ne2:N1≠N3:=by omega
 have ne3:N3≠w.heap.size:=by omega
 have ne4:N3≠N1:=by omega
 have HN:Hid (w.heap.size<N3):=by show w.heap.size<N3;omega
 clear hN1 hN2 hN3
 go_region_held3 (fun w'=>w'.cell? ⟨w.heap.size,0,none⟩=some (.int .i64 p)/\w'.cell? ⟨w.heap.size,1,none⟩=some (.int .i64 a)/\w'.cell? ⟨w.heap.size,2,none⟩=some (.int .i64 b)/\w'.cell? ⟨w.heap.size,3,none⟩=some (.int .i64 c)/\w'.cell? ⟨w.heap.size,4,none⟩=some (.int .i64 d)/\w'.cell? ⟨w.heap.size,5,none⟩=some (.slice oa on oc)/\w'.cell? ⟨w.heap.size,6,none⟩=some (.int .i64 code)/\w'.cell? ⟨N1,1,none⟩=some (.int .i64 jr)/\w'.cell? ⟨N1,2,none⟩=some (.int .i64 ja)/\w'.cell? ⟨N1,3,none⟩=some (.int .i64 jb)/\w'.cell? ⟨w.heap.size,1+ja,none⟩=some (.int .i64 (zi [a,b,c,d] ja))/\w'.cell? ⟨w.heap.size,1+jb,none⟩=some (.int .i64 (zi [a,b,c,d] jb))) (go_keep)
  (first|(go_at_call 238;refine (qe6 _ _ _ _ _ _ _ _ _ _ _ _ h0 h1 hj).mono ?_;rintro e w1 ⟨rfl,b1'⟩;have b1:Below W.heap.size W w1:=(Below.refl W.heap.size W).drew.trans b1';obtain ⟨hc1,hf1⟩:=qap b1;have B1:Hid (Below w.heap.size w w1):=BW.out.trans (b1.mono BW.out.size);clear b1 b1'))
 go_wp2;refine bodyPost_ret (v:=dV (p+1) (set4 a b c d jr (zi [a,b,c,d] ja+zi [a,b,c,d] jb)).1 (set4 a b c d jr (zi [a,b,c,d] ja+zi [a,b,c,d] jb)).2.1 (set4 a b c d jr (zi [a,b,c,d] ja+zi [a,b,c,d] jb)).2.2.1 (set4 a b c d jr (zi [a,b,c,d] ja+zi [a,b,c,d] jb)).2.2.2 oa on oc code) (by simp [results,Tryz.results213,go_sem,hc1,l3,r0,r1,r2,r3,r4,r5,r6]) rfl ⟨rfl,?_⟩;have:=B1.out;have:=HN.out
 go_grown
theorem qw8 (p a b c d:Int) (oa:Option Addr) (on oc:Nat) (code:Int) (jr ja jb:Nat) (n o k q v:Int) (w:World) (h0:0<=p) (h1:p<=1000000000) (hj:jr<4) (ha:ja<4) (hb:jb<4) (na1:-1000000000<=zi [a,b,c,d] ja) (na2:zi [a,b,c,d] ja<=1000000000) (nb1:-1000000000<=zi [a,b,c,d] jb) (nb2:zi [a,b,c,d] jb<=1000000000) (mb1:-1000000000000000000<=zi [a,b,c,d] ja*zi [a,b,c,d] jb) (mb2:zi [a,b,c,d] ja*zi [a,b,c,d] jb<=1000000000000000000):
  Calls Tryz.prog 214 #[dV p a b c d oa on oc code,insV o jr ja jb n,evV k q v] w fun e w'=>e=.returned (dV (p+1) (set4 a b c d jr (zi [a,b,c,d] ja - zi [a,b,c,d] jb)).1 (set4 a b c d jr (zi [a,b,c,d] ja - zi [a,b,c,d] jb)).2.1 (set4 a b c d jr (zi [a,b,c,d] ja - zi [a,b,c,d] jb)).2.2.1 (set4 a b c d jr (zi [a,b,c,d] ja - zi [a,b,c,d] jb)).2.2.2 oa on oc code)/\Below w.heap.size w w':=by
 go_enter Tryz.func214,Tryz.ntmps214
 go_wp2_with fail
 generalize hW:((((w.alloc (oQ2 p a b c d oa on oc code)).alloc (oQ3 o jr ja jb n)).alloc (oQ0 k q v)).alloc (zQ1))=W at *;obtain ⟨k0,k1,k2,k3,k4,k5,k6,x0,x1,x2,x3,x4,y0,y1,y2,r0,r1,r2,r3,r4,r5,r6,rf,l3,BW'⟩:=qub hW;have BW:Hid (Below w.heap.size w W):=BW';clear BW';clear hW;have l0:w.heap.size<W.heap.size:=by omega
 have l1:w.heap.size+1<W.heap.size:=by omega
 have l2:w.heap.size+1+1<W.heap.size:=by omega
 have ja':(ja:Int)<4:=by omega
 have ca:W.cell? ⟨w.heap.size,1+ja,none⟩=some (.int .i64 (zi [a,b,c,d] ja)):=by
  match ja,ha with
  | 0,_=>exact k1
  | 1,_=>exact k2
  | 2,_=>exact k3
  | 3,_=>exact k4
 have cb:W.cell? ⟨w.heap.size,1+jb,none⟩=some (.int .i64 (zi [a,b,c,d] jb)):=by
  match jb,hb with
  | 0,_=>exact k1
  | 1,_=>exact k2
  | 2,_=>exact k3
  | 3,_=>exact k4
 have jb':(jb:Int)<4:=by omega
 have hw:IntKind.i64.wrap (zi [a,b,c,d] ja - zi [a,b,c,d] jb)=zi [a,b,c,d] ja - zi [a,b,c,d] jb:=by rw [IntKind.wrap_i64];omega
 generalize hN3:w.heap.size+1+1+1=N3 at *;generalize hN2:w.heap.size+1+1=N2 at *;generalize hN1:w.heap.size+1=N1 at *;have ne1:w.heap.size≠N3:=by omega
 have ne2:N1≠N3:=by omega
 have ne3:N3≠w.heap.size:=by omega
 have ne4:N3≠N1:=by omega
 have HN:Hid (w.heap.size<N3):=by show w.heap.size<N3;omega
 clear hN1 hN2 hN3
 go_region_held3 (fun w'=>w'.cell? ⟨w.heap.size,0,none⟩=some (.int .i64 p)/\w'.cell? ⟨w.heap.size,1,none⟩=some (.int .i64 a)/\w'.cell? ⟨w.heap.size,2,none⟩=some (.int .i64 b)/\w'.cell? ⟨w.heap.size,3,none⟩=some (.int .i64 c)/\w'.cell? ⟨w.heap.size,4,none⟩=some (.int .i64 d)/\w'.cell? ⟨w.heap.size,5,none⟩=some (.slice oa on oc)/\w'.cell? ⟨w.heap.size,6,none⟩=some (.int .i64 code)/\w'.cell? ⟨N1,1,none⟩=some (.int .i64 jr)/\w'.cell? ⟨N1,2,none⟩=some (.int .i64 ja)/\w'.cell? ⟨N1,3,none⟩=some (.int .i64 jb)/\w'.cell? ⟨w.heap.size,1+ja,none⟩=some (.int .i64 (zi [a,b,c,d] ja))/\w'.cell? ⟨w.heap.size,1+jb,none⟩=some (.int .i64 (zi [a,b,c,d] jb))) (go_keep)
  (first|(go_at_call 238;refine (qe6 _ _ _ _ _ _ _ _ _ _ _ _ h0 h1 hj).mono ?_;rintro e w1 ⟨rfl,b1'⟩;have b1:Below W.heap.size W w1:=(Below.refl W.heap.size W).drew.trans b1';obtain ⟨hc1,hf1⟩:=qap b1;have B1:Hid (Below w.heap.size w w1):=BW.out.trans (b1.mono BW.out.size);clear b1 b1'))
 go_wp2;refine bodyPost_ret (v:=dV (p+1) (set4 a b c d jr (zi [a,b,c,d] ja - zi [a,b,c,d] jb)).1 (set4 a b c d jr (zi [a,b,c,d] ja - zi [a,b,c,d] jb)).2.1 (set4 a b c d jr (zi [a,b,c,d] ja - zi [a,b,c,d] jb)).2.2.1 (set4 a b c d jr (zi [a,b,c,d] ja - zi [a,b,c,d] jb)).2.2.2 oa on oc code) (by simp [results,Tryz.results214,go_sem,hc1,l3,r0,r1,r2,r3,r4,r5,r6]) rfl ⟨rfl,?_⟩;have:=B1.out;have:=HN.out
 go_grown
theorem qw6 (p a b c d:Int) (oa:Option Addr) (on oc:Nat) (code:Int) (jr ja jb:Nat) (n o k q v:Int) (w:World) (h0:0<=p) (h1:p<=1000000000) (hj:jr<4) (ha:ja<4) (hb:jb<4) (na1:-1000000000<=zi [a,b,c,d] ja) (na2:zi [a,b,c,d] ja<=1000000000) (nb1:-1000000000<=zi [a,b,c,d] jb) (nb2:zi [a,b,c,d] jb<=1000000000) (mb1:-1000000000000000000<=zi [a,b,c,d] ja*zi [a,b,c,d] jb) (mb2:zi [a,b,c,d] ja*zi [a,b,c,d] jb<=1000000000000000000):
  Calls Tryz.prog 215 #[dV p a b c d oa on oc code,insV o jr ja jb n,evV k q v] w fun e w'=>e=.returned (dV (p+1) (set4 a b c d jr (zi [a,b,c,d] ja*zi [a,b,c,d] jb)).1 (set4 a b c d jr (zi [a,b,c,d] ja*zi [a,b,c,d] jb)).2.1 (set4 a b c d jr (zi [a,b,c,d] ja*zi [a,b,c,d] jb)).2.2.1 (set4 a b c d jr (zi [a,b,c,d] ja*zi [a,b,c,d] jb)).2.2.2 oa on oc code)/\Below w.heap.size w w':=by
 go_enter Tryz.func215,Tryz.ntmps215
 go_wp2_with fail
 generalize hW:((((w.alloc (oQ2 p a b c d oa on oc code)).alloc (oQ3 o jr ja jb n)).alloc (oQ0 k q v)).alloc (zQ1))=W at *;obtain ⟨k0,k1,k2,k3,k4,k5,k6,x0,x1,x2,x3,x4,y0,y1,y2,r0,r1,r2,r3,r4,r5,r6,rf,l3,BW'⟩:=qub hW;have BW:Hid (Below w.heap.size w W):=BW';clear BW';clear hW;have l0:w.heap.size<W.heap.size:=by omega
 have l1:w.heap.size+1<W.heap.size:=by omega
 have l2:w.heap.size+1+1<W.heap.size:=by omega
 have ja':(ja:Int)<4:=by omega
 have ca:W.cell? ⟨w.heap.size,1+ja,none⟩=some (.int .i64 (zi [a,b,c,d] ja)):=by
  match ja,ha with
  | 0,_=>exact k1
  | 1,_=>exact k2
  | 2,_=>exact k3
  | 3,_=>exact k4
 have cb:W.cell? ⟨w.heap.size,1+jb,none⟩=some (.int .i64 (zi [a,b,c,d] jb)):=by
  match jb,hb with
  | 0,_=>exact k1
  | 1,_=>exact k2
  | 2,_=>exact k3
  | 3,_=>exact k4
 have jb':(jb:Int)<4:=by omega
 have hw:IntKind.i64.wrap (zi [a,b,c,d] ja*zi [a,b,c,d] jb)=zi [a,b,c,d] ja*zi [a,b,c,d] jb:=by rw [IntKind.wrap_i64];omega
 generalize hN3:w.heap.size+1+1+1=N3 at *;generalize hN2:w.heap.size+1+1=N2 at *;generalize hN1:w.heap.size+1=N1 at *;have ne1:w.heap.size≠N3:=by omega
 have ne2:N1≠N3:=by omega
 have ne3:N3≠w.heap.size:=by omega
 have ne4:N3≠N1:=by omega
 have HN:Hid (w.heap.size<N3):=by show w.heap.size<N3;omega
 clear hN1 hN2 hN3
 go_region_held3 (fun w'=>w'.cell? ⟨w.heap.size,0,none⟩=some (.int .i64 p)/\w'.cell? ⟨w.heap.size,1,none⟩=some (.int .i64 a)/\w'.cell? ⟨w.heap.size,2,none⟩=some (.int .i64 b)/\w'.cell? ⟨w.heap.size,3,none⟩=some (.int .i64 c)/\w'.cell? ⟨w.heap.size,4,none⟩=some (.int .i64 d)/\w'.cell? ⟨w.heap.size,5,none⟩=some (.slice oa on oc)/\w'.cell? ⟨w.heap.size,6,none⟩=some (.int .i64 code)/\w'.cell? ⟨N1,1,none⟩=some (.int .i64 jr)/\w'.cell? ⟨N1,2,none⟩=some (.int .i64 ja)/\w'.cell? ⟨N1,3,none⟩=some (.int .i64 jb)/\w'.cell? ⟨w.heap.size,1+ja,none⟩=some (.int .i64 (zi [a,b,c,d] ja))/\w'.cell? ⟨w.heap.size,1+jb,none⟩=some (.int .i64 (zi [a,b,c,d] jb))) (go_keep)
  (first|(go_at_call 238;refine (qe6 _ _ _ _ _ _ _ _ _ _ _ _ h0 h1 hj).mono ?_;rintro e w1 ⟨rfl,b1'⟩;have b1:Below W.heap.size W w1:=(Below.refl W.heap.size W).drew.trans b1';obtain ⟨hc1,hf1⟩:=qap b1;have B1:Hid (Below w.heap.size w w1):=BW.out.trans (b1.mono BW.out.size);clear b1 b1'))
 go_wp2;refine bodyPost_ret (v:=dV (p+1) (set4 a b c d jr (zi [a,b,c,d] ja*zi [a,b,c,d] jb)).1 (set4 a b c d jr (zi [a,b,c,d] ja*zi [a,b,c,d] jb)).2.1 (set4 a b c d jr (zi [a,b,c,d] ja*zi [a,b,c,d] jb)).2.2.1 (set4 a b c d jr (zi [a,b,c,d] ja*zi [a,b,c,d] jb)).2.2.2 oa on oc code) (by simp [results,Tryz.results215,go_sem,hc1,l3,r0,r1,r2,r3,r4,r5,r6]) rfl ⟨rfl,?_⟩;have:=B1.out;have:=HN.out
 go_grown
theorem qil (n cap:Nat) (h:n<=2000000) (hc:cap<n):Builtin.nextslicecap n cap*8<=281474976710656:=growslice_fits hc (by omega)
theorem qiq (w:World) (ty:TypeId) (B c:Nat) (v:Value) (ad:Addr) (xs:List Int) (y:Int) (h:OwnI w B v xs) (hy:w.cell? ad=some (.int .i64 y)) (hn:xs.length<=1048576) (hB:B<=w.heap.size):
  ∃ v' w',(Builtin.append_ #[28,28] ty #[v,.slice (some ad) 1 c]).run Tryz.prog w=.ok v' w'/\OwnI w' B v' (xs ++ [y])/\OwnI w' B v xs/\w.grownBy w' v.ownBlock/\(v'.ownBlock=v.ownBlock\/v'.ownBlock=some w.heap.size):=by
 obtain ⟨i,hi,hz,hs,hb⟩:=qk7
 have hnews:∀ j u,([y].map (Value.int .i64))[j]? = some u->w.cell? (ad.add j)=some u:=by
  intro j u hj
  match j,hj with
  | 0,hj=>
   simp at hj;subst hj;simpa [Addr.add] using hy
 obtain ⟨v',w',h1,h2,h3,_,h5⟩:=run_append_own_at (P:=Tryz.prog) w B 28 ty 3 i (.int .i64 0) 1 8 Tryz.underlying28 hi hz hs hb rfl (by decide) v xs.length (xs.map (Value.int .i64)) h ad 1 c ([y].map (Value.int .i64)) (by simp) hnews (qhw [y]) (by unfold maxLen;omega) (by omega) hB;refine ⟨v',w',h1,?_,?_,h3,h5⟩
 ·unfold OwnI
  rw [List.length_append,List.map_append];exact h2
 ·rcases h.2 with ⟨rfl,h0⟩ | ⟨g,cap,cur,rfl,hbg,hg,hnc,hcm,hcs,htake⟩
  ·exact ⟨h.1,.inl ⟨rfl,h0⟩⟩
  ·by_cases hroom:xs.length+1<=cap
   ·have hr:=run_append_room (P:=Tryz.prog) w 28 ty 3 i Tryz.underlying28 hi g xs.length cap cur hg ad 1 c ([y].map (Value.int .i64)) (by rw [hs];rfl) hnews (qhw [y]) hroom (by rw [hs];simp;omega)
    rw [hr] at h1;simp only [Result.ok.injEq] at h1;obtain ⟨-,rfl⟩:=h1;refine ⟨h.1,.inr ⟨g,cap,_,rfl,hbg,setRow_heap w g cur _ 3 _ hg,hnc,hcm,?_,?_⟩⟩
    ·rw [hs]
     simp only [List.size_toArray,List.length_append,List.length_take,List.length_drop,Array.length_toList,List.length_map,List.length_cons,List.length_nil];omega
    ·rw [hs]
     simp only [Nat.mul_one] at htake ⊢;rw [htake];simp only [List.append_assoc];rw [List.take_append_of_le_length (by simp),List.take_of_length_le (by simp)]
   ·have holds:∀ j u,(xs.map (Value.int .i64))[j]? = some u->w.cell? ((⟨g,0,none⟩:Addr).add j)=some u:=World.ownsRow.cells h (g:=g) rfl
    have hr:=run_append_grow (P:=Tryz.prog) w 28 ty 3 i (.int .i64 0) Tryz.underlying28 hi hz ⟨g,0,none⟩ xs.length cap (xs.map (Value.int .i64)) (by rw [hs];simp) holds ad 1 c ([y].map (Value.int .i64)) (by rw [hs];rfl) hnews (by omega) (by omega) (by rw [hb];exact qil _ _ (by omega) (by omega));rw [hr] at h1;simp only [Result.ok.injEq] at h1;obtain ⟨-,rfl⟩:=h1;exact h.below ((Below.refl w.heap.size w).drew.alloc (by simp) _)
theorem qf8 {ops:Array Oper} {rest:List Oper} {op:Oper} {act:Act} {Q:Exit->Act->World->Prop} (w:World) (hgd:op.guard=none) (s x:Operand)
  (ho:op.op=.call { callee:=.builtin .append,args:=#[s,x],argTypes:=#[28,28] })
  (B c:Nat) (v:Value) (ad:Addr) (xs:List Int) (y:Int) (hs:act.eval s=v) (hx:act.eval x=.slice (some ad) 1 c) (hv:OwnI w B v xs) (hy:w.cell? ad=some (.int .i64 y)) (hn:xs.length<=1048576) (hB:B<=w.heap.size)
  (h:∀ v' w',OwnI w' B v' (xs ++ [y])->OwnI w' B v xs->w.grownBy w' v.ownBlock->(v'.ownBlock=v.ownBlock\/v'.ownBlock=some w.heap.size)->wpList Tryz.prog ops Q rest (act.put op.dst v') w'):
  wpList Tryz.prog ops Q (op :: rest) act w:=by
 obtain ⟨v',w',h1,h2,h3,h4,h5⟩:=qiq w op.type B c v ad xs y hv hy hn hB;refine wpList_plain hgd fun K hK=>?_;unfold Oper.wp execOp;simp only [ho,resolve,invoke,builtin,Sem.run_bind,Sem.run_pure,Result.andThen_ok,List.map_toArray,List.map_cons,List.map_nil,hs,hx,h1];exact hK _ _ (h v' w' h2 h3 h4 h5)
theorem qlz (p a b c d:Int) (oa:Option Addr) (on oc:Nat) (code:Int) (jr ja jb:Nat) (n o k q v:Int) (w:World) (_h0:0<=p) (_h1:p<=1000000000) (ha:ja<4) (hz:(zi [a,b,c,d] ja == 0)=true):
  Calls Tryz.prog 221 #[dV p a b c d oa on oc code,insV o jr ja jb n,evV k q v] w fun e w'=>e=.returned (dV n a b c d oa on oc code)/\Below w.heap.size w w':=by
 have ca:((((w.alloc (oQ2 p a b c d oa on oc code)).alloc (oQ3 o jr ja jb n)).alloc (oQ0 k q v)).alloc (zQ1)).cell? ⟨w.heap.size,1+ja,none⟩=some (.int .i64 (zi [a,b,c,d] ja)):=by
  refine (zQ _ _ (by simp<;>omega)).trans ((zQ _ _ (by simp<;>omega)).trans ((zQ _ _ (by simp)).trans ?_))
  match ja,ha with
  | 0,_=>simp [zi]
  | 1,_=>simp [zi]
  | 2,_=>simp [zi]
  | 3,_=>simp [zi]
 have ja':(ja:Int)<4:=by omega
 go_enter Tryz.func221,Tryz.ntmps221
 go_wp2_with fail
 refine (qol _ _ _ _ _ _ _ _ _ _ _ _ _ _ _ _ _ _ _h0 _h1).mono ?_;rintro e w1 ⟨rfl,b1⟩;have B1:Hid (Below w.heap.size w w1):=qai (by go_grown) b1 (by simp;omega);obtain ⟨hc1,hf1⟩:=qap b1;clear b1;go_wp2;refine bodyPost_ret (v:=dV n a b c d oa on oc code) (by simp [results,Tryz.results221,go_sem,hc1]) rfl ⟨rfl,?_⟩;have:=B1.out
 go_grown
theorem qon (p a b c d:Int) (oa:Option Addr) (on oc:Nat) (code:Int) (jr ja jb:Nat) (n o k q v:Int) (w:World) (h0:0<=p) (h1:p<=1000000000) (ha:ja<4) (hz:(zi [a,b,c,d] ja == 0)=false):
  Calls Tryz.prog 221 #[dV p a b c d oa on oc code,insV o jr ja jb n,evV k q v] w fun e w'=>e=.returned (dV (p+1) a b c d oa on oc code)/\Below w.heap.size w w':=by
 have ca:((((w.alloc (oQ2 p a b c d oa on oc code)).alloc (oQ3 o jr ja jb n)).alloc (oQ0 k q v)).alloc (zQ1)).cell? ⟨w.heap.size,1+ja,none⟩=some (.int .i64 (zi [a,b,c,d] ja)):=by
  refine (zQ _ _ (by simp<;>omega)).trans ((zQ _ _ (by simp<;>omega)).trans ((zQ _ _ (by simp)).trans ?_))
  match ja,ha with
  | 0,_=>simp [zi]
  | 1,_=>simp [zi]
  | 2,_=>simp [zi]
  | 3,_=>simp [zi]
 have ja':(ja:Int)<4:=by omega
 go_enter Tryz.func221,Tryz.ntmps221
 go_wp2_with fail
 refine (qcj _ _ _ _ _ _ _ _ _ _ h0 h1).mono ?_;rintro e w1 ⟨rfl,b1⟩;have B1:Hid (Below w.heap.size w w1):=qai (by go_grown) b1 (by simp;omega);obtain ⟨hc1,hf1⟩:=qap b1;clear b1;go_wp2;refine bodyPost_ret (v:=dV (p+1) a b c d oa on oc code) (by simp [results,Tryz.results221,go_sem,hc1]) rfl ⟨rfl,?_⟩;have:=B1.out
 go_grown
theorem qxf {w W:World} {v0:Int} {v1:Int} {v2:Int} {v3:Int} {v4:Int} {v5:Option Addr} {v6:Nat} {v7:Nat} {v8:Int} {v9:Int} {v10:Int} {v11:Int} {v12:Int} {v13:Int} {v14:Int} {v15:Int} {v16:Int} (hW:((((w.alloc (oQ2 v0 v1 v2 v3 v4 v5 v6 v7 v8)).alloc (oQ3 v9 v10 v11 v12 v13)).alloc (oQ0 v14 v15 v16)).alloc (zQ1))=W):W.cell? ⟨w.heap.size,0,none⟩=some (.int .i64 v0)/\W.cell? ⟨w.heap.size,1,none⟩=some (.int .i64 v1)/\W.cell? ⟨w.heap.size,2,none⟩=some (.int .i64 v2)/\W.cell? ⟨w.heap.size,3,none⟩=some (.int .i64 v3)/\W.cell? ⟨w.heap.size,4,none⟩=some (.int .i64 v4)/\W.cell? ⟨w.heap.size,5,none⟩=some (.slice v5 v6 v7)/\W.cell? ⟨w.heap.size,6,none⟩=some (.int .i64 v8)/\W.cell? ⟨w.heap.size+1,0,none⟩=some (.int .i64 v9)/\W.cell? ⟨w.heap.size+1,1,none⟩=some (.int .i64 v10)/\W.cell? ⟨w.heap.size+1,2,none⟩=some (.int .i64 v11)/\W.cell? ⟨w.heap.size+1,3,none⟩=some (.int .i64 v12)/\W.cell? ⟨w.heap.size+1,4,none⟩=some (.int .i64 v13)/\W.cell? ⟨w.heap.size+1+1,0,none⟩=some (.int .i64 v14)/\W.cell? ⟨w.heap.size+1+1,1,none⟩=some (.int .i64 v15)/\W.cell? ⟨w.heap.size+1+1,2,none⟩=some (.int .i64 v16)/\W.cell? ⟨w.heap.size+1+1+1,0,none⟩=some (.int .i64 0)/\W.cell? ⟨w.heap.size+1+1+1,1,none⟩=some (.int .i64 0)/\W.cell? ⟨w.heap.size+1+1+1,2,none⟩=some (.int .i64 0)/\W.cell? ⟨w.heap.size+1+1+1,3,none⟩=some (.int .i64 0)/\W.cell? ⟨w.heap.size+1+1+1,4,none⟩=some (.int .i64 0)/\W.cell? ⟨w.heap.size+1+1+1,5,none⟩=some (.slice none 0 0)/\W.cell? ⟨w.heap.size+1+1+1,6,none⟩=some (.int .i64 0)/\(∀ j,W.frozen? ⟨w.heap.size+1+1+1,j,none⟩=false)/\w.heap.size+1+1+1<W.heap.size/\Below w.heap.size w W:=by
 subst hW;exact ⟨(zQ _ _ (by simp<;>omega)).trans ((zQ _ _ (by simp<;>omega)).trans ((zQ _ _ (by simp)).trans (by simp))),(zQ _ _ (by simp<;>omega)).trans ((zQ _ _ (by simp<;>omega)).trans ((zQ _ _ (by simp)).trans (by simp))),(zQ _ _ (by simp<;>omega)).trans ((zQ _ _ (by simp<;>omega)).trans ((zQ _ _ (by simp)).trans (by simp))),(zQ _ _ (by simp<;>omega)).trans ((zQ _ _ (by simp<;>omega)).trans ((zQ _ _ (by simp)).trans (by simp))),(zQ _ _ (by simp<;>omega)).trans ((zQ _ _ (by simp<;>omega)).trans ((zQ _ _ (by simp)).trans (by simp))),(zQ _ _ (by simp<;>omega)).trans ((zQ _ _ (by simp<;>omega)).trans ((zQ _ _ (by simp)).trans (by simp))),(zQ _ _ (by simp<;>omega)).trans ((zQ _ _ (by simp<;>omega)).trans ((zQ _ _ (by simp)).trans (by simp))),(zQ _ _ (by simp<;>omega)).trans ((zQ _ _ (by simp)).trans (by simp)),(zQ _ _ (by simp<;>omega)).trans ((zQ _ _ (by simp)).trans (by simp)),(zQ _ _ (by simp<;>omega)).trans ((zQ _ _ (by simp)).trans (by simp)),(zQ _ _ (by simp<;>omega)).trans ((zQ _ _ (by simp)).trans (by simp)),(zQ _ _ (by simp<;>omega)).trans ((zQ _ _ (by simp)).trans (by simp)),(zQ _ _ (by simp)).trans (qao _ _ _ 0 (by simp)),(zQ _ _ (by simp)).trans (qao _ _ _ 1 (by simp)),(zQ _ _ (by simp)).trans (qao _ _ _ 2 (by simp)),qao _ _ _ 0 (by simp),qao _ _ _ 1 (by simp),qao _ _ _ 2 (by simp),qao _ _ _ 3 (by simp),qao _ _ _ 4 (by simp),qao _ _ _ 5 (by simp),qao _ _ _ 6 (by simp),fun j=>qdl _ _ _ j (by simp),by simp,by go_grown⟩
theorem qly (p a b c d:Int) (oa:Option Addr) (on oc:Nat) (code:Int) (jr ja jb:Nat) (n o k q v:Int) (w:World) (h0:0<=p) (h1:p<=1000000000) (hj:jr<4) (ha:ja<4) (hb:jb<4) (hlt:zi [a,b,c,d] ja<zi [a,b,c,d] jb):
  Calls Tryz.prog 216 #[dV p a b c d oa on oc code,insV o jr ja jb n,evV k q v] w fun e w'=>e=.returned (dV (p+1) (set4 a b c d jr (1)).1 (set4 a b c d jr (1)).2.1 (set4 a b c d jr (1)).2.2.1 (set4 a b c d jr (1)).2.2.2 oa on oc code)/\Below w.heap.size w w':=by
 go_enter Tryz.func216,Tryz.ntmps216
 go_wp2_with fail
 generalize hW:((((w.alloc (oQ2 p a b c d oa on oc code)).alloc (oQ3 o jr ja jb n)).alloc (oQ0 k q v)).alloc (zQ1))=W at *;obtain ⟨k0,k1,k2,k3,k4,k5,k6,x0,x1,x2,x3,x4,y0,y1,y2,r0,r1,r2,r3,r4,r5,r6,rf,l3,BW'⟩:=qxf hW;have BW:Hid (Below w.heap.size w W):=BW';clear BW';clear hW;have l0:w.heap.size<W.heap.size:=by omega
 have l1:w.heap.size+1<W.heap.size:=by omega
 have l2:w.heap.size+1+1<W.heap.size:=by omega
 have ja':(ja:Int)<4:=by omega
 have ca:W.cell? ⟨w.heap.size,1+ja,none⟩=some (.int .i64 (zi [a,b,c,d] ja)):=by
  match ja,ha with
  | 0,_=>exact k1
  | 1,_=>exact k2
  | 2,_=>exact k3
  | 3,_=>exact k4
 have cb:W.cell? ⟨w.heap.size,1+jb,none⟩=some (.int .i64 (zi [a,b,c,d] jb)):=by
  match jb,hb with
  | 0,_=>exact k1
  | 1,_=>exact k2
  | 2,_=>exact k3
  | 3,_=>exact k4
 have jb':(jb:Int)<4:=by omega
 go_quiet (fail)
 go_wp2_with fail
 refine (qe6 _ _ _ _ _ _ _ _ _ _ _ _ h0 h1 hj).mono ?_;rintro e w1 ⟨rfl,b1'⟩;have b1:Below W.heap.size W w1:=(yB (Below.refl W.heap.size W) nq).trans b1';obtain ⟨hc1,hf1⟩:=qap b1;have B1:Hid (Below w.heap.size w w1):=BW.out.trans (b1.mono BW.out.size);clear b1 b1';go_wp2;refine bodyPost_ret (v:=dV (p+1) (set4 a b c d jr (1)).1 (set4 a b c d jr (1)).2.1 (set4 a b c d jr (1)).2.2.1 (set4 a b c d jr (1)).2.2.2 oa on oc code) (by simp [results,Tryz.results216,go_sem,hc1,l3,r0,r1,r2,r3,r4,r5,r6]) rfl ⟨rfl,?_⟩;have:=B1.out
 go_grown
theorem qom (p a b c d:Int) (oa:Option Addr) (on oc:Nat) (code:Int) (jr ja jb:Nat) (n o k q v:Int) (w:World) (h0:0<=p) (h1:p<=1000000000) (hj:jr<4) (ha:ja<4) (hb:jb<4) (hlt:¬ zi [a,b,c,d] ja<zi [a,b,c,d] jb):
  Calls Tryz.prog 216 #[dV p a b c d oa on oc code,insV o jr ja jb n,evV k q v] w fun e w'=>e=.returned (dV (p+1) (set4 a b c d jr (0)).1 (set4 a b c d jr (0)).2.1 (set4 a b c d jr (0)).2.2.1 (set4 a b c d jr (0)).2.2.2 oa on oc code)/\Below w.heap.size w w':=by
 go_enter Tryz.func216,Tryz.ntmps216
 go_wp2_with fail
 generalize hW:((((w.alloc (oQ2 p a b c d oa on oc code)).alloc (oQ3 o jr ja jb n)).alloc (oQ0 k q v)).alloc (zQ1))=W at *;obtain ⟨k0,k1,k2,k3,k4,k5,k6,x0,x1,x2,x3,x4,y0,y1,y2,r0,r1,r2,r3,r4,r5,r6,rf,l3,BW'⟩:=qxf hW;have BW:Hid (Below w.heap.size w W):=BW';clear BW';clear hW;have l0:w.heap.size<W.heap.size:=by omega
 have l1:w.heap.size+1<W.heap.size:=by omega
 have l2:w.heap.size+1+1<W.heap.size:=by omega
 have ja':(ja:Int)<4:=by omega
 have ca:W.cell? ⟨w.heap.size,1+ja,none⟩=some (.int .i64 (zi [a,b,c,d] ja)):=by
  match ja,ha with
  | 0,_=>exact k1
  | 1,_=>exact k2
  | 2,_=>exact k3
  | 3,_=>exact k4
 have cb:W.cell? ⟨w.heap.size,1+jb,none⟩=some (.int .i64 (zi [a,b,c,d] jb)):=by
  match jb,hb with
  | 0,_=>exact k1
  | 1,_=>exact k2
  | 2,_=>exact k3
  | 3,_=>exact k4
 have jb':(jb:Int)<4:=by omega
 go_quiet (fail)
 go_wp2_with fail
 refine (qe6 _ _ _ _ _ _ _ _ _ _ _ _ h0 h1 hj).mono ?_;rintro e w1 ⟨rfl,b1'⟩;have b1:Below W.heap.size W w1:=(yB (Below.refl W.heap.size W) nq).trans b1';obtain ⟨hc1,hf1⟩:=qap b1;have B1:Hid (Below w.heap.size w w1):=BW.out.trans (b1.mono BW.out.size);clear b1 b1';go_wp2;refine bodyPost_ret (v:=dV (p+1) (set4 a b c d jr (0)).1 (set4 a b c d jr (0)).2.1 (set4 a b c d jr (0)).2.2.1 (set4 a b c d jr (0)).2.2.2 oa on oc code) (by simp [results,Tryz.results216,go_sem,hc1,l3,r0,r1,r2,r3,r4,r5,r6]) rfl ⟨rfl,?_⟩;have:=B1.out
 go_grown
theorem qyo {w W:World} {v0:Int} {v1:Int} {v2:Int} {v3:Int} {v4:Int} {v5:Option Addr} {v6:Nat} {v7:Nat} {v8:Int} {v9:Int} {v10:Int} {v11:Int} {v12:Int} {v13:Int} {v14:Int} {v15:Int} {v16:Int} (hW:((((w.alloc (oQ2 v0 v1 v2 v3 v4 v5 v6 v7 v8)).alloc (oQ3 v9 v10 v11 v12 v13)).alloc (oQ0 v14 v15 v16)).alloc (zQ1))=W):W.cell? ⟨w.heap.size,0,none⟩=some (.int .i64 v0)/\W.cell? ⟨w.heap.size,1,none⟩=some (.int .i64 v1)/\W.cell? ⟨w.heap.size,2,none⟩=some (.int .i64 v2)/\W.cell? ⟨w.heap.size,3,none⟩=some (.int .i64 v3)/\W.cell? ⟨w.heap.size,4,none⟩=some (.int .i64 v4)/\W.cell? ⟨w.heap.size,5,none⟩=some (.slice v5 v6 v7)/\W.cell? ⟨w.heap.size,6,none⟩=some (.int .i64 v8)/\W.cell? ⟨w.heap.size+1,0,none⟩=some (.int .i64 v9)/\W.cell? ⟨w.heap.size+1,1,none⟩=some (.int .i64 v10)/\W.cell? ⟨w.heap.size+1,2,none⟩=some (.int .i64 v11)/\W.cell? ⟨w.heap.size+1,3,none⟩=some (.int .i64 v12)/\W.cell? ⟨w.heap.size+1,4,none⟩=some (.int .i64 v13)/\W.cell? ⟨w.heap.size+1+1,0,none⟩=some (.int .i64 v14)/\W.cell? ⟨w.heap.size+1+1,1,none⟩=some (.int .i64 v15)/\W.cell? ⟨w.heap.size+1+1,2,none⟩=some (.int .i64 v16)/\W.cell? ⟨w.heap.size+1+1+1,0,none⟩=some (.int .i64 0)/\W.cell? ⟨w.heap.size+1+1+1,1,none⟩=some (.int .i64 0)/\W.cell? ⟨w.heap.size+1+1+1,2,none⟩=some (.int .i64 0)/\W.cell? ⟨w.heap.size+1+1+1,3,none⟩=some (.int .i64 0)/\W.cell? ⟨w.heap.size+1+1+1,4,none⟩=some (.int .i64 0)/\W.cell? ⟨w.heap.size+1+1+1,5,none⟩=some (.slice none 0 0)/\W.cell? ⟨w.heap.size+1+1+1,6,none⟩=some (.int .i64 0)/\(∀ j,W.frozen? ⟨w.heap.size+1+1+1,j,none⟩=false)/\w.heap.size+1+1+1<W.heap.size/\Below w.heap.size w W/\(∀ j,W.frozen? ⟨w.heap.size,j,none⟩=false):=by
 subst hW;exact ⟨(zQ _ _ (by simp<;>omega)).trans ((zQ _ _ (by simp<;>omega)).trans ((zQ _ _ (by simp)).trans (by simp))),(zQ _ _ (by simp<;>omega)).trans ((zQ _ _ (by simp<;>omega)).trans ((zQ _ _ (by simp)).trans (by simp))),(zQ _ _ (by simp<;>omega)).trans ((zQ _ _ (by simp<;>omega)).trans ((zQ _ _ (by simp)).trans (by simp))),(zQ _ _ (by simp<;>omega)).trans ((zQ _ _ (by simp<;>omega)).trans ((zQ _ _ (by simp)).trans (by simp))),(zQ _ _ (by simp<;>omega)).trans ((zQ _ _ (by simp<;>omega)).trans ((zQ _ _ (by simp)).trans (by simp))),(zQ _ _ (by simp<;>omega)).trans ((zQ _ _ (by simp<;>omega)).trans ((zQ _ _ (by simp)).trans (by simp))),(zQ _ _ (by simp<;>omega)).trans ((zQ _ _ (by simp<;>omega)).trans ((zQ _ _ (by simp)).trans (by simp))),(zQ _ _ (by simp<;>omega)).trans ((zQ _ _ (by simp)).trans (by simp)),(zQ _ _ (by simp<;>omega)).trans ((zQ _ _ (by simp)).trans (by simp)),(zQ _ _ (by simp<;>omega)).trans ((zQ _ _ (by simp)).trans (by simp)),(zQ _ _ (by simp<;>omega)).trans ((zQ _ _ (by simp)).trans (by simp)),(zQ _ _ (by simp<;>omega)).trans ((zQ _ _ (by simp)).trans (by simp)),(zQ _ _ (by simp)).trans (qao _ _ _ 0 (by simp)),(zQ _ _ (by simp)).trans (qao _ _ _ 1 (by simp)),(zQ _ _ (by simp)).trans (qao _ _ _ 2 (by simp)),qao _ _ _ 0 (by simp),qao _ _ _ 1 (by simp),qao _ _ _ 2 (by simp),qao _ _ _ 3 (by simp),qao _ _ _ 4 (by simp),qao _ _ _ 5 (by simp),qao _ _ _ 6 (by simp),fun j=>qdl _ _ _ j (by simp),by simp,by go_grown,fun j=>((qap (zS _ _)).2 _ _ (by simp<;>omega)).trans (((qap (zS _ _)).2 _ _ (by simp<;>omega)).trans (((qap (zS _ _)).2 _ _ (by simp)).trans (qdl _ _ _ j rfl)))⟩
theorem qty (p a b c d:Int) (oa:Option Addr) (oc:Nat) (os:List Int) (code:Int) (jr ja jb:Nat) (n o k q v:Int) (B:Nat) (w:World) (h0:0<=p) (h1:p<=1000000000) (hn:os.length<=1048576) (hB:B<=w.heap.size) (hO:OwnI w B (.slice oa os.length oc) os):
  Calls Tryz.prog 219 #[dV p a b c d oa os.length oc code,insV o jr ja jb n,evV k q v] w fun e w'=>∃ oa' oc',e=.returned (dV (p+1) a b c d oa' (os.length+1) oc' code)/\OwnI w' B (.slice oa' (os.length+1) oc') (os ++ [v])/\OwnI w' B (.slice oa os.length oc) os/\w.grownBy w' (Value.slice oa os.length oc).ownBlock/\∀ j,(Value.slice oa' (os.length+1) oc').ownBlock=some j->(Value.slice oa os.length oc).ownBlock=some j\/w.heap.size<=j:=by
 have HO:Hid (OwnI w B (.slice oa os.length oc) os):=hO;have LO:Hid (∀ j,(Value.slice oa os.length oc).ownBlock=some j->j<w.heap.size):=fun j hj=>(hO.lt j hj).2;clear hO
 go_enter Tryz.func219,Tryz.ntmps219
 go_wp2_with (at_builtin;refine qdj rfl ?_)
 unfold STOP;generalize hW:((((w.alloc (oQ2 p a b c d oa os.length oc code)).alloc (oQ3 o jr ja jb n)).alloc (oQ0 k q v)).alloc (zQ1))=W at *;obtain ⟨k0,k1,k2,k3,k4,k5,k6,x0,x1,x2,x3,x4,y0,y1,y2,r0,r1,r2,r3,r4,r5,r6,rf,l3,BW',kf⟩:=qyo hW;have BW:Hid (Below w.heap.size w W):=BW';clear BW'
 have HZ:Hid (w.heap.size+1+1+1+1=W.heap.size):=by
  subst hW;show _=_;simp
 clear hW;have hy:(W.alloc (.cells #[.int .i64 v] 3)).cell? ⟨w.heap.size+1+1+1+1,0,none⟩=some (.int .i64 v):=qao _ _ _ 0 (by rw [HZ.out]);have bA:=zS W (.cells #[.int .i64 v] 3);refine qf8 _ rfl _ _ rfl B 1 (.slice oa os.length oc) ⟨w.heap.size+1+1+1+1,0,none⟩ os v rfl rfl ((HO.out.below BW.out).below bA) hy hn (by have:=BW.out.size;simp;omega) ?_;intro v1 w1 o1 p1 g1 at1
 obtain ⟨G,cap,hv1⟩:∃ G cap,v1=.slice (some ⟨G,0,none⟩) (os.length+1) cap:=by
  rcases o1.2 with ⟨rfl,e0⟩ | ⟨G,cap,cur,rfl,_⟩
  ·simp at e0
  ·exact ⟨G,cap,by simp⟩
 subst hv1;have zA:(W.alloc (.cells #[.int .i64 v] 3)).heap.size=W.heap.size+1:=by simp
 have hz:=HZ.out
 have nR:∀ j,w.heap.size<=j->some j≠(Value.slice oa os.length oc).ownBlock:=fun j hj h=>by
  have:=LO.out j h.symm;omega
 have e0:=qhj g1 (b:=w.heap.size) (by omega) (nR _ (by omega));have e3:=qhj g1 (b:=w.heap.size+1+1+1) (by omega) (nR _ (by omega));have q0:=(e0.1 0).trans ((zQ _ _ (by omega)).trans k0);have q1:=(e0.1 1).trans ((zQ _ _ (by omega)).trans k1);have q2:=(e0.1 2).trans ((zQ _ _ (by omega)).trans k2);have q3:=(e0.1 3).trans ((zQ _ _ (by omega)).trans k3);have q4:=(e0.1 4).trans ((zQ _ _ (by omega)).trans k4);have q5:=(e0.1 5).trans ((zQ _ _ (by omega)).trans k5);have q6:=(e0.1 6).trans ((zQ _ _ (by omega)).trans k6);have qf:=(e0.2 5).trans (((qap bA).2 _ _ (by omega)).trans (kf 5));have s0:=(e3.1 0).trans ((zQ _ _ l3).trans r0);have s1:=(e3.1 1).trans ((zQ _ _ l3).trans r1);have s2:=(e3.1 2).trans ((zQ _ _ l3).trans r2);have s3:=(e3.1 3).trans ((zQ _ _ l3).trans r3);have s4:=(e3.1 4).trans ((zQ _ _ l3).trans r4);have s5:=(e3.1 5).trans ((zQ _ _ l3).trans r5);have s6:=(e3.1 6).trans ((zQ _ _ l3).trans r6);have sf:=fun j=>(e3.2 j).trans (((qap bA).2 _ _ l3).trans (rf j));have z1:w.heap.size+1+1+1+1<w1.heap.size:=by have:=g1.size;omega
 have GW:Hid (w.grownBy w1 (Value.slice oa os.length oc).ownBlock):=(qbq (zY (BW.out.trans (bA.mono BW.out.size))) _).trans g1
 have A2:Hid (∀ j,(Value.slice (some ⟨G,0,none⟩) (os.length+1) cap).ownBlock=some j->(Value.slice oa os.length oc).ownBlock=some j\/w.heap.size<=j):=by
  intro j h5
  rcases at1 with h8 | h8
  ·exact .inl (h8.symm.trans h5)
  ·rw [h5] at h8
   simp only [Option.some.injEq] at h8;exact .inr (by omega)
 have AT:Hid (∀ j,w.heap.size<=j->j<w.heap.size+1+1+1+1->(Value.slice (some ⟨G,0,none⟩) (os.length+1) cap).ownBlock≠some j):=by
  intro j h5 h6 h7
  rcases at1 with h8 | h8
  ·exact nR j h5 (h7.symm.trans h8)
  ·rw [h7] at h8
   simp only [Option.some.injEq] at h8;omega
 clear hz HZ zA bA g1 e0 e3 k0 k1 k2 k3 k4 k5 k6 kf r0 r1 r2 r3 r4 r5 r6 rf l3 x0 x1 x2 x3 x4 y0 y1 y2 BW hy;have O1:Hid (OwnI w1 B _ _):=o1;have P1:Hid (OwnI w1 B _ _):=p1;clear o1 p1 at1;go_wp2_with fail
 refine (qcj _ _ _ _ _ _ _ _ _ _ h0 h1).mono ?_;rintro e w2 ⟨rfl,b2⟩;obtain ⟨hc2,hf2⟩:=qap b2;have zz:(w1.setCell ⟨w.heap.size,5,none⟩ (.slice (some ⟨G,0,none⟩) (os.length+1) cap)).heap.size=w1.heap.size:=by simp
 have l3:w.heap.size+1+1+1<(w1.setCell ⟨w.heap.size,5,none⟩ (.slice (some ⟨G,0,none⟩) (os.length+1) cap)).heap.size:=by omega
 have gS:=zU (p:=⟨w.heap.size,5,none⟩) (World.grownBy.refl w1 (some w.heap.size)) (.inl rfl) (.slice (some ⟨G,0,none⟩) (os.length+1) cap);have e3:=qhj gS (b:=w.heap.size+1+1+1) (by omega) (by simp;omega);have t0:=(hc2 _ 0 l3).trans ((e3.1 0).trans s0);have t1:=(hc2 _ 1 l3).trans ((e3.1 1).trans s1);have t2:=(hc2 _ 2 l3).trans ((e3.1 2).trans s2);have t3:=(hc2 _ 3 l3).trans ((e3.1 3).trans s3);have t4:=(hc2 _ 4 l3).trans ((e3.1 4).trans s4);have t5:=(hc2 _ 5 l3).trans ((e3.1 5).trans s5);have t6:=(hc2 _ 6 l3).trans ((e3.1 6).trans s6);have tf:=fun j=>(hf2 _ j l3).trans ((e3.2 j).trans (sf j));have O2:Hid (OwnI w2 B _ _):=(O1.out.setOther (p:=⟨w.heap.size,5,none⟩) (AT.out _ (by simp) (by simp;omega)) _).below b2;have P2:Hid (OwnI w2 B _ _):=(P1.out.setOther (p:=⟨w.heap.size,5,none⟩) (fun h=>nR _ (by simp) h.symm) _).below b2;have G2:Hid (w.grownBy w2 (Value.slice oa os.length oc).ownBlock):=(zU (p:=⟨w.heap.size,5,none⟩) GW.out (.inr (by simp)) _).trans (qbq (zY b2) _);have A3:Hid ((Value.slice (some ⟨G,0,none⟩) (os.length+1) cap).ownBlock≠some (w.heap.size+1+1+1)):=AT.out _ (by omega) (by omega);have N3:Hid ((Value.slice oa os.length oc).ownBlock≠some (w.heap.size+1+1+1)):=fun h=>nR _ (by omega) h.symm;clear b2 hc2 hf2 zz l3 gS e3 s0 s1 s2 s3 s4 s5 s6 sf q0 q1 q2 q3 q4 q5 q6 qf O1 P1 GW AT nR;go_wp2_with fail
 refine bodyPost_ret (v:=dV (p+1) a b c d (some ⟨G,0,none⟩) (os.length+1) cap code) (by simp [results,Tryz.results219,go_sem,t0,t1,t2,t3,t4,t5,t6]) rfl ⟨_,_,rfl,?_,?_,?_,A2.out⟩
 ·repeat (refine OwnI.setOther ?_ A3.out _)
  exact O2.out
 ·repeat (refine OwnI.setOther ?_ N3.out _)
  exact P2.out
 ·repeat (refine zU ?_ (.inr (by simp;omega)) _)
  exact G2.out
theorem qa6.of_row {v:Value} {w w':World} {row:Option Nat} (g:w.grownBy w' row) (h:∀ k,row=some k->qae v k):qa6 v w w':=
 ⟨g.os,g.tape,g.output,g.size,fun k hk hn=>g.block k hk (fun e=>hn (h k e.symm))⟩
theorem qri {w w':World} {row:Option Nat} (h:w.grownBy w' row):w.grownBy w'.drew row:=⟨h.os,h.tape,h.output,h.size,h.block⟩
theorem qa6.trans {v:Value} {w w1 w2:World} (h:qa6 v w w1) (k:qa6 v w1 w2):qa6 v w w2:=
 ⟨k.os.trans h.os,k.tape.trans h.tape,k.output.trans h.output,zO h.size k.size,fun j hj hn=>(k.block j (zL hj h.size) hn).trans (h.block j hj hn)⟩
theorem qa6.of_below {v:Value} {w w':World} (h:Below w.heap.size w w'):qa6 v w w':=⟨h.os,h.tape,h.output,h.size,fun k hk _=>h.block k hk⟩
theorem qag.parts {w:World} {B:Nat} {p code:Int} {ra oa:Option Addr} {rn rc on oc:Nat} {rs os:List Int} (h:qag w B (stV p ra rn rc oa on oc code) p rs os code):OwnI w B (.slice ra rn rc) rs/\OwnI w B (.slice oa on oc) os/\∀ k,(Value.slice ra rn rc).ownBlock=some k->(Value.slice oa on oc).ownBlock≠some k:=by
 obtain ⟨vr,vo,e,o1,o2,ha⟩:=h;simp only [stV,Value.agg.injEq,Array.mk.injEq,List.cons.injEq,and_true,true_and] at e;obtain ⟨rfl,rfl⟩:=e;exact ⟨o1,o2,ha⟩
theorem qp7 (b off len cap k:Nat) (g:Nat->I5) (ra oa:Option Addr) (rc oc:Nat) (rs os:List Int) (B:Nat) (v:Int) (w:World) (hl:(len:Int)<=30) (hb:b<w.heap.size) (hI:qan w b off len g) (h4:rs.length=4) (hO:qag w B (stV k ra rs.length rc oa os.length oc 0) k rs os 0) (hk:k<len) (hp:qac g len 4=true) (hnum:allN rs=true) (h678:(g k).o≠6/\(g k).o≠7/\(g k).o≠8):
  Calls Tryz.prog 161 #[.slice (some ⟨b,off,none⟩) len cap,stV k ra rs.length rc oa os.length oc 0] w fun e w'=>∃ u,(∃ q c,u=stV q ra rs.length rc oa os.length oc c)/\e=.returned u/\qag w' B u (qah len (g k) k rs os 0 v).p (qah len (g k) k rs os 0 v).rs (qah len (g k) k rs os 0 v).os (qah len (g k) k rs os 0 v).c/\qa6 (stV k ra rs.length rc oa os.length oc 0) w w':=by
 obtain ⟨o1,o2,ha⟩:=hO.parts;obtain ⟨G,rfl,_,_,_⟩:=qhx o1 (by omega);obtain ⟨⟨q1,q11⟩,⟨r0,r3⟩,⟨a0,a3⟩,⟨b0,b3⟩⟩:=qcb (qbt hp hk);obtain ⟨jr,hjr⟩:=Int.eq_ofNat_of_zero_le r0;obtain ⟨ja,hja⟩:=Int.eq_ofNat_of_zero_le a0;obtain ⟨jb,hjb⟩:=Int.eq_ofNat_of_zero_le b0;have hn4:∀ j,j<4->numB (zi rs j)=true:=fun j hj=>(List.all_eq_true.1 hnum) _ (qxs (by omega));rw [h4] at o1 ha ⊢
 have key:∀ s:S4,s=qah len (g k) k rs os 0 0->s.os=os->(Calls Tryz.prog 161 #[.slice (some ⟨b,off,none⟩) len cap,stV k (some ⟨G,0,none⟩) 4 rc oa os.length oc 0] w fun e w'=>e=.returned (stV s.p (some ⟨G,0,none⟩) 4 rc oa os.length oc s.c)/\OwnI w' B (.slice (some ⟨G,0,none⟩) 4 rc) s.rs/\w.grownBy w' (some G))->qah len (g k) k rs os 0 v=qah len (g k) k rs os 0 0->(Calls Tryz.prog 161 #[.slice (some ⟨b,off,none⟩) len cap,stV k (some ⟨G,0,none⟩) 4 rc oa os.length oc 0] w fun e w'=>∃ u,(∃ q c,u=stV q (some ⟨G,0,none⟩) 4 rc oa os.length oc c)/\e=.returned u/\qag w' B u (qah len (g k) k rs os 0 v).p (qah len (g k) k rs os 0 v).rs (qah len (g k) k rs os 0 v).os (qah len (g k) k rs os 0 v).c/\qa6 (stV k (some ⟨G,0,none⟩) 4 rc oa os.length oc 0) w w'):=by
  intro s hs hos h he;rw [he,<- hs];refine h.mono fun e w' ⟨h1,h2,h3⟩=>⟨_,⟨_,_,rfl⟩,h1,⟨_,_,rfl,h2,?_,ha⟩,qa6.of_row h3 fun j hj=>(qal _ _ _ _ _).2 (.inl hj)⟩
  rw [hos]
  exact o2.kept h3 (by
   cases hv:(Value.slice oa os.length oc).ownBlock with
   | none=>exact .inl rfl
   | some j=>exact .inr (fun e=>ha G rfl (by rw [hv,e])))
 have hsame:qah len (g k) k rs os 0 v=qah len (g k) k rs os 0 0:=by
  unfold qah;rw [if_neg h678.1,if_neg h678.2.1,if_neg h678.2.2,if_neg h678.1,if_neg h678.2.1,if_neg h678.2.2]
 have hos:(qah len (g k) k rs os 0 0).os=os:=by
  unfold qah;rw [if_neg h678.1,if_neg h678.2.1,if_neg h678.2.2]
  split
  ·rfl
  ·split
   ·split <;> rfl
   ·split
    ·rfl
    ·split <;> rfl
 refine key _ rfl hos ?_ hsame
 rcases qe3 (g k).o with ho | ho | ho | ho | ho | ho | ho | ho | ho | ho | ho | ho
 ·omega
 ·exact qdf b off len cap k g G rc oa os.length oc 0 rs B w hl hb hI o1 h4 hk jr ja jb hjr hja hjb (by omega) (by omega) (by omega) hn4 os 1 (g k).n ho (.inl ⟨rfl,rfl⟩)
 ·exact qdf b off len cap k g G rc oa os.length oc 0 rs B w hl hb hI o1 h4 hk jr ja jb hjr hja hjb (by omega) (by omega) (by omega) hn4 os 2 (zi rs ja+zi rs jb) ho (.inr (.inl ⟨rfl,rfl⟩))
 ·exact qdf b off len cap k g G rc oa os.length oc 0 rs B w hl hb hI o1 h4 hk jr ja jb hjr hja hjb (by omega) (by omega) (by omega) hn4 os 3 (zi rs ja - zi rs jb) ho (.inr (.inr (.inl ⟨rfl,rfl⟩)))
 ·exact qdf b off len cap k g G rc oa os.length oc 0 rs B w hl hb hI o1 h4 hk jr ja jb hjr hja hjb (by omega) (by omega) (by omega) hn4 os 4 (zi rs ja*zi rs jb) ho (.inr (.inr (.inr (.inl ⟨rfl,rfl⟩))))
 ·by_cases hab:zi rs ja<zi rs jb
  ·exact qdf b off len cap k g G rc oa os.length oc 0 rs B w hl hb hI o1 h4 hk jr ja jb hjr hja hjb (by omega) (by omega) (by omega) hn4 os 5 1 ho (.inr (.inr (.inr (.inr (.inl ⟨rfl,rfl,hab⟩)))))
  ·exact qdf b off len cap k g G rc oa os.length oc 0 rs B w hl hb hI o1 h4 hk jr ja jb hjr hja hjb (by omega) (by omega) (by omega) hn4 os 5 0 ho (.inr (.inr (.inr (.inr (.inr ⟨rfl,rfl,hab⟩)))))
 ·exact absurd ho h678.1
 ·exact absurd ho h678.2.1
 ·exact absurd ho h678.2.2
 ·exact qu1 b off len cap k g G rc oa os.length oc 0 rs B w hl hb hI o1 h4 hk jr ja jb hjr hja hjb (by omega) (by omega) (by omega) ho hn4 os
 ·exact qs6 b off len cap k g G rc oa os.length oc 0 rs B w hl hb hI o1 h4 hk jr ja jb hjr hja hjb (by omega) (by omega) (by omega) ho hn4 os
 ·exact qs7 b off len cap k g G rc oa os.length oc 0 rs B w hl hb hI o1 h4 hk jr ja jb hjr hja hjb (by omega) (by omega) (by omega) ho hn4 os
theorem qs4 (b off len cap k:Nat) (g:Nat->I5) (ra oa:Option Addr) (rc oc:Nat) (rs os:List Int) (w:World) (hl:(len:Int)<=30) (hb:b<w.heap.size) (hI:qan w b off len g) (h4:rs.length=4) (ho:os.length<=60) (h1:Sl w ra rs) (h2:Sl w oa os) (hk:k<len) (hp:qac g len 4=true) (np:Int) (HN:Hid (evK (g k).o=1/\evP (g k).o (g k).n=np/\evW (g k).o (g k).a rs=0)) (HL:Hid (allN rs=true/\(g k).o≠6/\(g k).o≠7/\(g k).o≠8)):
  Calls Tryz.prog 105 #[.slice (some ⟨b,off,none⟩) len cap,stV k ra rs.length rc oa os.length oc 0,evV 1 np 0] w fun e w'=>∃ v,e=.returned (.tuple #[v,.bool true])/\qag w' w.heap.size v (qah len (g k) k rs os 0 0).p (qah len (g k) k rs os 0 0).rs (qah len (g k) k rs os 0 0).os (qah len (g k) k rs os 0 0).c/\Below w.heap.size w w':=by
 have HI:Hid (qan w b off len g):=hI;have H1:Hid (Sl w ra rs):=h1;have H2:Hid (Sl w oa os):=h2;have H4:Hid (rs.length=4):=h4;have HP:Hid (qac g len 4=true):=hp;have hk':(k:Int)<(len:Int):=by omega
 clear hI h1 h2 h4 hp
 go_enter Tryz.func105,Tryz.ntmps105
 go_wp2_with fail
 refine (qb7 _ _ _ _ k g _ _ _ _ _ _ rs _ (by unfold maxLen;omega) (by simp;omega) (HI.out.below (by go_grown) hb) (H1.out.below (by go_grown)) H4.out hk HP.out).mono ?_;rintro e w1 ⟨he1,b1⟩;rw [HN.1,HN.2.1,HN.2.2] at he1;subst he1;have B1:Hid (Below w.heap.size w (w1.alloc (oQ0 1 np 0))):=(qai (by go_grown) b1 (by simp;omega)).alloc (by have:=b1.size;simp at this;omega) _;have X1:Hid (qay (w1.alloc (oQ0 1 np 0)) w.heap.size (.int .i64 k) (.slice ra rs.length rc) (.slice oa os.length oc) (.int .i64 0) 1 np 0):=((qay.new w _ _ _ _ _ _ _ _ _ _).below b1).below (zS w1 _);clear b1;obtain ⟨p0,p1,p2,p3,-,-,-,-,-,-,-,-⟩:=X1.out;go_wp2_with fail
 clear p0 p1 p2 p3;have V1:Hid (EvC3 (w1.alloc (oQ0 1 np 0)) w1.heap.size 1 np 0):=EvC3.new w1 _ _ _ _;generalize w1.alloc (oQ0 1 np 0)=W1 at *;refine (qbw _ _ _ _ _ _ rs os _ (by have:=H4.out;omega) (by omega) (H1.out.below B1.out) (H2.out.below B1.out)).mono ?_;rintro e w2 ⟨v2,rfl,o2,b2⟩;obtain ⟨ra2,rc2,oa2,oc2,rfl,-,-⟩:=o2.read;have bA:=zS w2 (oQ1 k ra2 rs.length rc2 oa2 os.length oc2 0);have q2:Below W1.heap.size W1 (w2.alloc (oQ1 k ra2 rs.length rc2 oa2 os.length oc2 0)):=b2.trans (bA.mono b2.size);have X2:Hid (qay (w2.alloc (oQ1 k ra2 rs.length rc2 oa2 os.length oc2 0)) w.heap.size (.int .i64 k) (.slice ra rs.length rc) (.slice oa os.length oc) (.int .i64 0) 1 np 0):=X1.out.below q2;have V2:Hid (EvC3 (w2.alloc (oQ1 k ra2 rs.length rc2 oa2 os.length oc2 0)) w1.heap.size 1 np 0):=V1.out.below q2;have Y2:Hid (BoxC (w2.alloc (oQ1 k ra2 rs.length rc2 oa2 os.length oc2 0)) w2.heap.size (.int .i64 k) (.slice ra2 rs.length rc2) (.slice oa2 os.length oc2) (.int .i64 0)):=BoxC.new w2 _ _ _ _ _;have F2:Hid (∀ j,(w2.alloc (oQ1 k ra2 rs.length rc2 oa2 os.length oc2 0)).frozen? ⟨w2.heap.size,j,none⟩=false):=fun j=>by simp
 have O2:Hid (qag (w2.alloc (oQ1 k ra2 rs.length rc2 oa2 os.length oc2 0)) W1.heap.size (stV k ra2 rs.length rc2 oa2 os.length oc2 0) k rs os 0):=o2.below bA;have L2:Hid (∀ j,qae (stV k ra2 rs.length rc2 oa2 os.length oc2 0) j->W1.heap.size<=j/\j<w2.heap.size):=fun j hj=>o2.lt hj;have B2:Hid (Below w.heap.size w (w2.alloc (oQ1 k ra2 rs.length rc2 oa2 os.length oc2 0))):=B1.out.trans (q2.mono B1.out.size);have zw:w.heap.size+1+1<W1.heap.size:=X1.out.lt;have zv:w1.heap.size<W1.heap.size:=zJ W1 _ V1.1;have z2:W1.heap.size<=w2.heap.size:=b2.size;clear b2 o2 bA q2 X1 V1 B1;obtain ⟨p0,p1,p2,p3,e0,e1,e2,r0,r1,r2,r3,rf⟩:=X2.out;obtain ⟨u0,u1,u2⟩:=V2.out;obtain ⟨t0,t1,t2,t3⟩:=Y2.out;have tf:=F2.out;go_wp2_with fail
 clear p0 p1 p2 p3 e0 e1 e2 r0 r1 r2 r3 rf u0 u1 u2 t0 t1 t2 t3 tf;generalize w2.alloc (oQ1 k ra2 rs.length rc2 oa2 os.length oc2 0)=W2 at *;refine (qp7 b off len cap k g ra2 oa2 rc2 oc2 rs os W1.heap.size 0 W2 hl (by have:=B2.out.size;omega) (HI.out.below B2.out hb) H4.out O2.out hk HP.out HL.1 HL.2).mono ?_;rintro e w3 ⟨u,⟨q3,c3,hu⟩,rfl,o3,m3⟩;rw [hu];rw [hu] at o3;have X3:Hid (qay w3 w.heap.size (.int .i64 k) (.slice ra rs.length rc) (.slice oa os.length oc) (.int .i64 0) 1 np 0):=X2.out.marked m3 fun j hj=>by have:=L2.out j hj;omega
 have O3:Hid (qag w3 W1.heap.size (stV q3 ra2 rs.length rc2 oa2 os.length oc2 c3) (qah len (g k) k rs os 0 0).p (qah len (g k) k rs os 0 0).rs (qah len (g k) k rs os 0 0).os (qah len (g k) k rs os 0 0).c):=o3;have B3:Hid (Below w.heap.size w w3):=B2.out.trans (m3.below B2.out.size fun j hj=>by have:=L2.out j hj;omega);clear o3 m3 X2 V2 Y2 F2 O2 B2 hu u;obtain ⟨-,-,-,-,-,-,-,r0,r1,r2,r3,rf⟩:=X3.out;go_wp2;refine bodyPost_ret (v:=.tuple #[stV q3 ra2 rs.length rc2 oa2 os.length oc2 c3,.bool true]) (by simp [results,Tryz.results105,go_sem,r0,r1,r2,r3]) rfl ⟨_,rfl,?_,?_⟩
 ·exact qag.put4 (B':=W1.heap.size) O3.out zw (by omega)
 ·have:=B3.out
  go_grown
theorem qla (b off len cap k:Nat) (g:Nat->I5) (ra oa:Option Addr) (rc oc:Nat) (rs os:List Int) (eq ev:Int) (w:World) (hl:(len:Int)<=30) (hb:b<w.heap.size) (hI:qan w b off len g) (h4:rs.length=4) (ho:os.length<=60) (h1:Sl w ra rs) (h2:Sl w oa os) (hk:k<len) (hp:qac g len 4=true) (np nv:Int) (HN:Hid (evK (g k).o=3/\evP (g k).o (g k).n=np/\evW (g k).o (g k).a rs=nv)) (H7:Hid ((g k).o=7)) (q2:inB ev (-1000000000) 1000000000=true) (q3:(np != 9)=false) (q5:inB eq 0 3=true):
  Calls Tryz.prog 105 #[.slice (some ⟨b,off,none⟩) len cap,stV k ra rs.length rc oa os.length oc 0,evV 3 eq ev] w fun e w'=>∃ v,e=.returned (.tuple #[v,.bool true])/\qag w' w.heap.size v (qah len (g k) k rs os 0 ev).p (qah len (g k) k rs os 0 ev).rs (qah len (g k) k rs os 0 ev).os (qah len (g k) k rs os 0 ev).c/\Below w.heap.size w w':=by
 have HI:Hid (qan w b off len g):=hI;have H1:Hid (Sl w ra rs):=h1;have H2:Hid (Sl w oa os):=h2;have H4:Hid (rs.length=4):=h4;have HP:Hid (qac g len 4=true):=hp;have hk':(k:Int)<(len:Int):=by omega
 clear hI h1 h2 h4 hp
 go_enter Tryz.func105,Tryz.ntmps105
 go_wp2_with fail
 refine (qb7 _ _ _ _ k g _ _ _ _ _ _ rs _ (by unfold maxLen;omega) (by simp;omega) (HI.out.below (by go_grown) hb) (H1.out.below (by go_grown)) H4.out hk HP.out).mono ?_;rintro e w1 ⟨he1,b1⟩;rw [HN.1,HN.2.1,HN.2.2] at he1;subst he1;have B1:Hid (Below w.heap.size w (w1.alloc (oQ0 3 np nv))):=(qai (by go_grown) b1 (by simp;omega)).alloc (by have:=b1.size;simp at this;omega) _;have X1:Hid (qay (w1.alloc (oQ0 3 np nv)) w.heap.size (.int .i64 k) (.slice ra rs.length rc) (.slice oa os.length oc) (.int .i64 0) 3 eq ev):=((qay.new w _ _ _ _ _ _ _ _ _ _).below b1).below (zS w1 _);clear b1;obtain ⟨p0,p1,p2,p3,-,-,-,-,-,-,-,-⟩:=X1.out;go_wp2_with fail
 clear p0 p1 p2 p3;have V1:Hid (EvC3 (w1.alloc (oQ0 3 np nv)) w1.heap.size 3 np nv):=EvC3.new w1 _ _ _ _;generalize w1.alloc (oQ0 3 np nv)=W1 at *;refine (qbw _ _ _ _ _ _ rs os _ (by have:=H4.out;omega) (by omega) (H1.out.below B1.out) (H2.out.below B1.out)).mono ?_;rintro e w2 ⟨v2,rfl,o2,b2⟩;obtain ⟨ra2,rc2,oa2,oc2,rfl,-,-⟩:=o2.read;have bA:=zS w2 (oQ1 k ra2 rs.length rc2 oa2 os.length oc2 0);have q2:Below W1.heap.size W1 (w2.alloc (oQ1 k ra2 rs.length rc2 oa2 os.length oc2 0)):=b2.trans (bA.mono b2.size);have X2:Hid (qay (w2.alloc (oQ1 k ra2 rs.length rc2 oa2 os.length oc2 0)) w.heap.size (.int .i64 k) (.slice ra rs.length rc) (.slice oa os.length oc) (.int .i64 0) 3 eq ev):=X1.out.below q2;have V2:Hid (EvC3 (w2.alloc (oQ1 k ra2 rs.length rc2 oa2 os.length oc2 0)) w1.heap.size 3 np nv):=V1.out.below q2;have Y2:Hid (BoxC (w2.alloc (oQ1 k ra2 rs.length rc2 oa2 os.length oc2 0)) w2.heap.size (.int .i64 k) (.slice ra2 rs.length rc2) (.slice oa2 os.length oc2) (.int .i64 0)):=BoxC.new w2 _ _ _ _ _;have F2:Hid (∀ j,(w2.alloc (oQ1 k ra2 rs.length rc2 oa2 os.length oc2 0)).frozen? ⟨w2.heap.size,j,none⟩=false):=fun j=>by simp
 have O2:Hid (qag (w2.alloc (oQ1 k ra2 rs.length rc2 oa2 os.length oc2 0)) W1.heap.size (stV k ra2 rs.length rc2 oa2 os.length oc2 0) k rs os 0):=o2.below bA;have L2:Hid (∀ j,qae (stV k ra2 rs.length rc2 oa2 os.length oc2 0) j->W1.heap.size<=j/\j<w2.heap.size):=fun j hj=>o2.lt hj;have B2:Hid (Below w.heap.size w (w2.alloc (oQ1 k ra2 rs.length rc2 oa2 os.length oc2 0))):=B1.out.trans (q2.mono B1.out.size);have zw:w.heap.size+1+1<W1.heap.size:=X1.out.lt;have zv:w1.heap.size<W1.heap.size:=zJ W1 _ V1.1;have z2:W1.heap.size<=w2.heap.size:=b2.size;clear b2 o2 bA q2 X1 V1 B1;obtain ⟨p0,p1,p2,p3,e0,e1,e2,r0,r1,r2,r3,rf⟩:=X2.out;obtain ⟨u0,u1,u2⟩:=V2.out;obtain ⟨t0,t1,t2,t3⟩:=Y2.out;have tf:=F2.out;go_wp2_with (first|(go_at_call 158;refine (l1Num_any _ _).mono ?_;rintro e w' ⟨rfl,rfl⟩)|(go_at_call 20;refine (l1In_any _ _ _ _).mono ?_;rintro e w' ⟨rfl,rfl⟩))
 generalize w2.alloc (oQ1 k ra2 rs.length rc2 oa2 os.length oc2 0)=W2 at *;obtain ⟨o1,o2,ha⟩:=O2.out.parts;obtain ⟨G,rfl,_,hG1,hG2⟩:=qhx o1 (by have:=H4.out;omega);have hGw:W1.heap.size<=G/\G<w2.heap.size:=L2.out G ((qal _ _ _ _ _).2 (.inl rfl));obtain ⟨⟨q1',q11⟩,⟨r0',r3'⟩,-,-⟩:=qcb (qbt HP.out hk);obtain ⟨jr,hjr⟩:=Int.eq_ofNat_of_zero_le r0';obtain ⟨c0,c1,c2,c3,c4⟩:=HI.out.below B2.out hb k hk;rw [hjr] at c1;have hj4:jr<rs.length:=by have:=H4.out;omega
 have hj4':(jr:Int)<(rs.length:Int):=by omega
 have cg:W2.cell? ⟨G,jr,none⟩=some (.int .i64 (zi rs jr)):=o1.cell hj4;have fg:W2.frozen? ⟨G,jr,none⟩=false:=o1.frozen jr
 have HD:Hid (qah len (g k) k rs os 0 ev=goS len k (rs.set jr ev) os 0):=by
  show qah len (g k) k rs os 0 ev=goS len k (rs.set jr ev) os 0;unfold qah;rw [H7.out,if_neg (by decide),if_pos rfl,hjr,Int.toNat_natCast]
 have zG:w.heap.size<G/\w.heap.size+1<G/\w.heap.size+1+1<G/\G≠w2.heap.size:=by omega
 have zb:b≠G:=by have:=B2.out;omega
 clear o1 o2 ha c0 c2 c3 c4 hjr q1' q11 r0' r3'
 go_region
 have m3:qa6 (stV k (some ⟨G,0,none⟩) rs.length rc2 oa2 os.length oc2 0) W2 (W2.setCell ⟨G,jr,none⟩ (.int .i64 ev)).drew:=qa6.of_row (row:=some G) (qri (zU (p:=⟨G,jr,none⟩) (World.grownBy.refl W2 (some G)) (.inl rfl) _)) fun j hj=>(qal _ _ _ _ _).2 (.inl (by cases hj;rfl))
 have O3:Hid (qag (W2.setCell ⟨G,jr,none⟩ (.int .i64 ev)).drew W1.heap.size (stV k (some ⟨G,0,none⟩) rs.length rc2 oa2 os.length oc2 0) k (rs.set jr ev) os 0):=by
  obtain ⟨o1,o2,ha⟩:=O2.out.parts;exact ⟨_,_,rfl,(o1.set rfl jr ev).1,o2.setOther (fun e=>ha G rfl e) _,ha⟩
 have X3:Hid (qay (W2.setCell ⟨G,jr,none⟩ (.int .i64 ev)).drew w.heap.size (.int .i64 k) (.slice ra rs.length rc) (.slice oa os.length oc) (.int .i64 0) 3 eq ev):=X2.out.marked m3 fun j hj=>by have:=L2.out j hj;omega
 have Y3:Hid (BoxC (W2.setCell ⟨G,jr,none⟩ (.int .i64 ev)).drew w2.heap.size (.int .i64 k) (.slice (some ⟨G,0,none⟩) rs.length rc2) (.slice oa2 os.length oc2) (.int .i64 0)):=Y2.out.marked m3 fun hh=>by have:=L2.out _ hh;omega
 have B3:Hid (Below w.heap.size w (W2.setCell ⟨G,jr,none⟩ (.int .i64 ev)).drew):=B2.out.trans (m3.below B2.out.size fun j hj=>by have:=L2.out j hj;omega);clear p0 p1 p2 p3 e0 e1 e2 r0 r1 r2 r3 rf u0 u1 u2 t0 t1 t2 t3 tf m3 X2 V2 Y2 F2 O2 B2 cg fg c1;obtain ⟨t0,t1,t2,t3⟩:=Y3.out;go_wp2_with fail
 clear t0 t1 t2 t3;generalize (W2.setCell ⟨G,jr,none⟩ (.int .i64 ev)).drew=W3 at *;refine (qeg _ _ _ _ _ _ _ _ _ _ _ _ (by omega) (by omega)).mono ?_;rintro e w4 ⟨rfl,b4⟩;have X4:Hid (qay w4 w.heap.size (.int .i64 k) (.slice ra rs.length rc) (.slice oa os.length oc) (.int .i64 0) 3 eq ev):=X3.out.below b4;have O4:Hid (qag w4 W1.heap.size (stV k (some ⟨G,0,none⟩) rs.length rc2 oa2 os.length oc2 0) k (rs.set jr ev) os 0):=O3.out.below b4;have B4:Hid (Below w.heap.size w w4):=B3.out.trans (b4.mono B3.out.size);clear b4 X3 Y3 O3 B3;obtain ⟨-,-,-,-,-,-,-,r0,r1,r2,r3,rf⟩:=X4.out;go_wp2;refine bodyPost_ret (v:=.tuple #[stV (goP len k) (some ⟨G,0,none⟩) rs.length rc2 oa2 os.length oc2 (goC len k 0),.bool true]) (by simp [results,Tryz.results105,go_sem,r0,r1,r2,r3]) rfl ⟨_,rfl,?_,?_⟩
 ·rw [HD.out]
  exact qag.put4 (B':=W1.heap.size) ((O4.out.replace _).recode _) zw (by omega)
 ·have:=B4.out
  go_grown
theorem qlb (b off len cap k:Nat) (g:Nat->I5) (ra oa:Option Addr) (rc oc:Nat) (rs os:List Int) (eq ev:Int) (w:World) (hl:(len:Int)<=30) (hb:b<w.heap.size) (hI:qan w b off len g) (h4:rs.length=4) (ho:os.length<=60) (h1:Sl w ra rs) (h2:Sl w oa os) (hk:k<len) (hp:qac g len 4=true) (np nv:Int) (HN:Hid (evK (g k).o=3/\evP (g k).o (g k).n=np/\evW (g k).o (g k).a rs=nv)) (H7:Hid ((g k).o=7)) (q2:inB ev (-1000000000) 1000000000=true) (q3:(np != 9)=true) (q4:(eq != np)=false) (q5:inB eq 0 3=true):
  Calls Tryz.prog 105 #[.slice (some ⟨b,off,none⟩) len cap,stV k ra rs.length rc oa os.length oc 0,evV 3 eq ev] w fun e w'=>∃ v,e=.returned (.tuple #[v,.bool true])/\qag w' w.heap.size v (qah len (g k) k rs os 0 ev).p (qah len (g k) k rs os 0 ev).rs (qah len (g k) k rs os 0 ev).os (qah len (g k) k rs os 0 ev).c/\Below w.heap.size w w':=by
 have HI:Hid (qan w b off len g):=hI;have H1:Hid (Sl w ra rs):=h1;have H2:Hid (Sl w oa os):=h2;have H4:Hid (rs.length=4):=h4;have HP:Hid (qac g len 4=true):=hp;have hk':(k:Int)<(len:Int):=by omega
 clear hI h1 h2 h4 hp
 go_enter Tryz.func105,Tryz.ntmps105
 go_wp2_with fail
 refine (qb7 _ _ _ _ k g _ _ _ _ _ _ rs _ (by unfold maxLen;omega) (by simp;omega) (HI.out.below (by go_grown) hb) (H1.out.below (by go_grown)) H4.out hk HP.out).mono ?_;rintro e w1 ⟨he1,b1⟩;rw [HN.1,HN.2.1,HN.2.2] at he1;subst he1;have B1:Hid (Below w.heap.size w (w1.alloc (oQ0 3 np nv))):=(qai (by go_grown) b1 (by simp;omega)).alloc (by have:=b1.size;simp at this;omega) _;have X1:Hid (qay (w1.alloc (oQ0 3 np nv)) w.heap.size (.int .i64 k) (.slice ra rs.length rc) (.slice oa os.length oc) (.int .i64 0) 3 eq ev):=((qay.new w _ _ _ _ _ _ _ _ _ _).below b1).below (zS w1 _);clear b1;obtain ⟨p0,p1,p2,p3,-,-,-,-,-,-,-,-⟩:=X1.out;go_wp2_with fail
 clear p0 p1 p2 p3;have V1:Hid (EvC3 (w1.alloc (oQ0 3 np nv)) w1.heap.size 3 np nv):=EvC3.new w1 _ _ _ _;generalize w1.alloc (oQ0 3 np nv)=W1 at *;refine (qbw _ _ _ _ _ _ rs os _ (by have:=H4.out;omega) (by omega) (H1.out.below B1.out) (H2.out.below B1.out)).mono ?_;rintro e w2 ⟨v2,rfl,o2,b2⟩;obtain ⟨ra2,rc2,oa2,oc2,rfl,-,-⟩:=o2.read;have bA:=zS w2 (oQ1 k ra2 rs.length rc2 oa2 os.length oc2 0);have q2:Below W1.heap.size W1 (w2.alloc (oQ1 k ra2 rs.length rc2 oa2 os.length oc2 0)):=b2.trans (bA.mono b2.size);have X2:Hid (qay (w2.alloc (oQ1 k ra2 rs.length rc2 oa2 os.length oc2 0)) w.heap.size (.int .i64 k) (.slice ra rs.length rc) (.slice oa os.length oc) (.int .i64 0) 3 eq ev):=X1.out.below q2;have V2:Hid (EvC3 (w2.alloc (oQ1 k ra2 rs.length rc2 oa2 os.length oc2 0)) w1.heap.size 3 np nv):=V1.out.below q2;have Y2:Hid (BoxC (w2.alloc (oQ1 k ra2 rs.length rc2 oa2 os.length oc2 0)) w2.heap.size (.int .i64 k) (.slice ra2 rs.length rc2) (.slice oa2 os.length oc2) (.int .i64 0)):=BoxC.new w2 _ _ _ _ _;have F2:Hid (∀ j,(w2.alloc (oQ1 k ra2 rs.length rc2 oa2 os.length oc2 0)).frozen? ⟨w2.heap.size,j,none⟩=false):=fun j=>by simp
 have O2:Hid (qag (w2.alloc (oQ1 k ra2 rs.length rc2 oa2 os.length oc2 0)) W1.heap.size (stV k ra2 rs.length rc2 oa2 os.length oc2 0) k rs os 0):=o2.below bA;have L2:Hid (∀ j,qae (stV k ra2 rs.length rc2 oa2 os.length oc2 0) j->W1.heap.size<=j/\j<w2.heap.size):=fun j hj=>o2.lt hj;have B2:Hid (Below w.heap.size w (w2.alloc (oQ1 k ra2 rs.length rc2 oa2 os.length oc2 0))):=B1.out.trans (q2.mono B1.out.size);have zw:w.heap.size+1+1<W1.heap.size:=X1.out.lt;have zv:w1.heap.size<W1.heap.size:=zJ W1 _ V1.1;have z2:W1.heap.size<=w2.heap.size:=b2.size;clear b2 o2 bA q2 X1 V1 B1;obtain ⟨p0,p1,p2,p3,e0,e1,e2,r0,r1,r2,r3,rf⟩:=X2.out;obtain ⟨u0,u1,u2⟩:=V2.out;obtain ⟨t0,t1,t2,t3⟩:=Y2.out;have tf:=F2.out;go_wp2_with (first|(go_at_call 158;refine (l1Num_any _ _).mono ?_;rintro e w' ⟨rfl,rfl⟩)|(go_at_call 20;refine (l1In_any _ _ _ _).mono ?_;rintro e w' ⟨rfl,rfl⟩))
 generalize w2.alloc (oQ1 k ra2 rs.length rc2 oa2 os.length oc2 0)=W2 at *;obtain ⟨o1,o2,ha⟩:=O2.out.parts;obtain ⟨G,rfl,_,hG1,hG2⟩:=qhx o1 (by have:=H4.out;omega);have hGw:W1.heap.size<=G/\G<w2.heap.size:=L2.out G ((qal _ _ _ _ _).2 (.inl rfl));obtain ⟨⟨q1',q11⟩,⟨r0',r3'⟩,-,-⟩:=qcb (qbt HP.out hk);obtain ⟨jr,hjr⟩:=Int.eq_ofNat_of_zero_le r0';obtain ⟨c0,c1,c2,c3,c4⟩:=HI.out.below B2.out hb k hk;rw [hjr] at c1;have hj4:jr<rs.length:=by have:=H4.out;omega
 have hj4':(jr:Int)<(rs.length:Int):=by omega
 have cg:W2.cell? ⟨G,jr,none⟩=some (.int .i64 (zi rs jr)):=o1.cell hj4;have fg:W2.frozen? ⟨G,jr,none⟩=false:=o1.frozen jr
 have HD:Hid (qah len (g k) k rs os 0 ev=goS len k (rs.set jr ev) os 0):=by
  show qah len (g k) k rs os 0 ev=goS len k (rs.set jr ev) os 0;unfold qah;rw [H7.out,if_neg (by decide),if_pos rfl,hjr,Int.toNat_natCast]
 have zG:w.heap.size<G/\w.heap.size+1<G/\w.heap.size+1+1<G/\G≠w2.heap.size:=by omega
 have zb:b≠G:=by have:=B2.out;omega
 clear o1 o2 ha c0 c2 c3 c4 hjr q1' q11 r0' r3'
 go_region
 have m3:qa6 (stV k (some ⟨G,0,none⟩) rs.length rc2 oa2 os.length oc2 0) W2 (W2.setCell ⟨G,jr,none⟩ (.int .i64 ev)).drew:=qa6.of_row (row:=some G) (qri (zU (p:=⟨G,jr,none⟩) (World.grownBy.refl W2 (some G)) (.inl rfl) _)) fun j hj=>(qal _ _ _ _ _).2 (.inl (by cases hj;rfl))
 have O3:Hid (qag (W2.setCell ⟨G,jr,none⟩ (.int .i64 ev)).drew W1.heap.size (stV k (some ⟨G,0,none⟩) rs.length rc2 oa2 os.length oc2 0) k (rs.set jr ev) os 0):=by
  obtain ⟨o1,o2,ha⟩:=O2.out.parts;exact ⟨_,_,rfl,(o1.set rfl jr ev).1,o2.setOther (fun e=>ha G rfl e) _,ha⟩
 have X3:Hid (qay (W2.setCell ⟨G,jr,none⟩ (.int .i64 ev)).drew w.heap.size (.int .i64 k) (.slice ra rs.length rc) (.slice oa os.length oc) (.int .i64 0) 3 eq ev):=X2.out.marked m3 fun j hj=>by have:=L2.out j hj;omega
 have Y3:Hid (BoxC (W2.setCell ⟨G,jr,none⟩ (.int .i64 ev)).drew w2.heap.size (.int .i64 k) (.slice (some ⟨G,0,none⟩) rs.length rc2) (.slice oa2 os.length oc2) (.int .i64 0)):=Y2.out.marked m3 fun hh=>by have:=L2.out _ hh;omega
 have B3:Hid (Below w.heap.size w (W2.setCell ⟨G,jr,none⟩ (.int .i64 ev)).drew):=B2.out.trans (m3.below B2.out.size fun j hj=>by have:=L2.out j hj;omega);clear p0 p1 p2 p3 e0 e1 e2 r0 r1 r2 r3 rf u0 u1 u2 t0 t1 t2 t3 tf m3 X2 V2 Y2 F2 O2 B2 cg fg c1;obtain ⟨t0,t1,t2,t3⟩:=Y3.out;go_wp2_with fail
 clear t0 t1 t2 t3;generalize (W2.setCell ⟨G,jr,none⟩ (.int .i64 ev)).drew=W3 at *;refine (qeg _ _ _ _ _ _ _ _ _ _ _ _ (by omega) (by omega)).mono ?_;rintro e w4 ⟨rfl,b4⟩;have X4:Hid (qay w4 w.heap.size (.int .i64 k) (.slice ra rs.length rc) (.slice oa os.length oc) (.int .i64 0) 3 eq ev):=X3.out.below b4;have O4:Hid (qag w4 W1.heap.size (stV k (some ⟨G,0,none⟩) rs.length rc2 oa2 os.length oc2 0) k (rs.set jr ev) os 0):=O3.out.below b4;have B4:Hid (Below w.heap.size w w4):=B3.out.trans (b4.mono B3.out.size);clear b4 X3 Y3 O3 B3;obtain ⟨-,-,-,-,-,-,-,r0,r1,r2,r3,rf⟩:=X4.out;go_wp2;refine bodyPost_ret (v:=.tuple #[stV (goP len k) (some ⟨G,0,none⟩) rs.length rc2 oa2 os.length oc2 (goC len k 0),.bool true]) (by simp [results,Tryz.results105,go_sem,r0,r1,r2,r3]) rfl ⟨_,rfl,?_,?_⟩
 ·rw [HD.out]
  exact qag.put4 (B':=W1.heap.size) ((O4.out.replace _).recode _) zw (by omega)
 ·have:=B4.out
  go_grown
theorem qs5 (b off len cap k:Nat) (g:Nat->I5) (ra oa:Option Addr) (rc oc:Nat) (rs os:List Int) (w:World) (hl:(len:Int)<=30) (hb:b<w.heap.size) (hI:qan w b off len g) (h4:rs.length=4) (ho:os.length<=60) (h1:Sl w ra rs) (h2:Sl w oa os) (hk:k<len) (hp:qac g len 4=true) (np nv:Int) (HN:Hid (evK (g k).o=4/\evP (g k).o (g k).n=np/\evW (g k).o (g k).a rs=nv)) (H8:Hid ((g k).o=8/\os.length≠60)) (h60:((os.length:Int) == 60)=false):
  Calls Tryz.prog 105 #[.slice (some ⟨b,off,none⟩) len cap,stV k ra rs.length rc oa os.length oc 0,evV 4 np nv] w fun e w'=>∃ v,e=.returned (.tuple #[v,.bool true])/\qag w' w.heap.size v (qah len (g k) k rs os 0 nv).p (qah len (g k) k rs os 0 nv).rs (qah len (g k) k rs os 0 nv).os (qah len (g k) k rs os 0 nv).c/\Below w.heap.size w w':=by
 have HI:Hid (qan w b off len g):=hI;have H1:Hid (Sl w ra rs):=h1;have H2:Hid (Sl w oa os):=h2;have H4:Hid (rs.length=4):=h4;have HP:Hid (qac g len 4=true):=hp;have hk':(k:Int)<(len:Int):=by omega
 clear hI h1 h2 h4 hp
 go_enter Tryz.func105,Tryz.ntmps105
 go_wp2_with fail
 refine (qb7 _ _ _ _ k g _ _ _ _ _ _ rs _ (by unfold maxLen;omega) (by simp;omega) (HI.out.below (by go_grown) hb) (H1.out.below (by go_grown)) H4.out hk HP.out).mono ?_;rintro e w1 ⟨he1,b1⟩;rw [HN.1,HN.2.1,HN.2.2] at he1;subst he1;have B1:Hid (Below w.heap.size w (w1.alloc (oQ0 4 np nv))):=(qai (by go_grown) b1 (by simp;omega)).alloc (by have:=b1.size;simp at this;omega) _;have X1:Hid (qay (w1.alloc (oQ0 4 np nv)) w.heap.size (.int .i64 k) (.slice ra rs.length rc) (.slice oa os.length oc) (.int .i64 0) 4 np nv):=((qay.new w _ _ _ _ _ _ _ _ _ _).below b1).below (zS w1 _);clear b1;obtain ⟨p0,p1,p2,p3,-,-,-,-,-,-,-,-⟩:=X1.out;go_wp2_with fail
 clear p0 p1 p2 p3;have V1:Hid (EvC3 (w1.alloc (oQ0 4 np nv)) w1.heap.size 4 np nv):=EvC3.new w1 _ _ _ _;generalize w1.alloc (oQ0 4 np nv)=W1 at *;refine (qbw _ _ _ _ _ _ rs os _ (by have:=H4.out;omega) (by omega) (H1.out.below B1.out) (H2.out.below B1.out)).mono ?_;rintro e w2 ⟨v2,rfl,o2,b2⟩;obtain ⟨ra2,rc2,oa2,oc2,rfl,-,-⟩:=o2.read;have bA:=zS w2 (oQ1 k ra2 rs.length rc2 oa2 os.length oc2 0);have q2:Below W1.heap.size W1 (w2.alloc (oQ1 k ra2 rs.length rc2 oa2 os.length oc2 0)):=b2.trans (bA.mono b2.size);have X2:Hid (qay (w2.alloc (oQ1 k ra2 rs.length rc2 oa2 os.length oc2 0)) w.heap.size (.int .i64 k) (.slice ra rs.length rc) (.slice oa os.length oc) (.int .i64 0) 4 np nv):=X1.out.below q2;have V2:Hid (EvC3 (w2.alloc (oQ1 k ra2 rs.length rc2 oa2 os.length oc2 0)) w1.heap.size 4 np nv):=V1.out.below q2;have Y2:Hid (BoxC (w2.alloc (oQ1 k ra2 rs.length rc2 oa2 os.length oc2 0)) w2.heap.size (.int .i64 k) (.slice ra2 rs.length rc2) (.slice oa2 os.length oc2) (.int .i64 0)):=BoxC.new w2 _ _ _ _ _;have F2:Hid (∀ j,(w2.alloc (oQ1 k ra2 rs.length rc2 oa2 os.length oc2 0)).frozen? ⟨w2.heap.size,j,none⟩=false):=fun j=>by simp
 have O2:Hid (qag (w2.alloc (oQ1 k ra2 rs.length rc2 oa2 os.length oc2 0)) W1.heap.size (stV k ra2 rs.length rc2 oa2 os.length oc2 0) k rs os 0):=o2.below bA;have L2:Hid (∀ j,qae (stV k ra2 rs.length rc2 oa2 os.length oc2 0) j->W1.heap.size<=j/\j<w2.heap.size):=fun j hj=>o2.lt hj;have B2:Hid (Below w.heap.size w (w2.alloc (oQ1 k ra2 rs.length rc2 oa2 os.length oc2 0))):=B1.out.trans (q2.mono B1.out.size);have zw:w.heap.size+1+1<W1.heap.size:=X1.out.lt;have zv:w1.heap.size<W1.heap.size:=zJ W1 _ V1.1;have z2:W1.heap.size<=w2.heap.size:=b2.size;clear b2 o2 bA q2 X1 V1 B1;obtain ⟨p0,p1,p2,p3,e0,e1,e2,r0,r1,r2,r3,rf⟩:=X2.out;obtain ⟨u0,u1,u2⟩:=V2.out;obtain ⟨t0,t1,t2,t3⟩:=Y2.out;have tf:=F2.out;go_wp2_with (at_builtin;refine qdj rfl ?_)
 unfold STOP
 have AS : Hid (Sl ((w2.alloc (oQ1 k ra2 rs.length rc2 oa2 os.length oc2 0)).alloc (.cells #[.int .i64 nv] 3)) (some ⟨w2.heap.size + 1, 0, none⟩) [nv]) := .inr ⟨w2.heap.size + 1, 0, rfl, by simp, fun i hi => by
  obtain rfl:i=0:=by simp at hi;omega
  exact zV _ _ _ 0 (by simp)⟩
 have bA:=zS (w2.alloc (oQ1 k ra2 rs.length rc2 oa2 os.length oc2 0)) (.cells #[.int .i64 nv] 3);clear p0 p1 p2 p3 e0 e1 e2 r0 r1 r2 r3 rf u0 u1 u2 t0 t1 t2 t3 tf;have hsz:(w2.alloc (oQ1 k ra2 rs.length rc2 oa2 os.length oc2 0)).heap.size=w2.heap.size+1:=by simp
 have HZ:Hid ((w2.alloc (oQ1 k ra2 rs.length rc2 oa2 os.length oc2 0)).heap.size=w2.heap.size+1):=hsz;clear hsz;generalize w2.alloc (oQ1 k ra2 rs.length rc2 oa2 os.length oc2 0)=W2 at *;obtain ⟨o1,o2,ha⟩:=O2.out.parts;refine qba _ rfl _ _ rfl W1.heap.size 1 (.slice oa2 os.length oc2) (some ⟨w2.heap.size+1,0,none⟩) os [nv] rfl rfl (o2.below bA) AS.out (by simp;omega) (by have:=HZ.out;simp;omega) ?_;intro v3 w3 o3 g3 at3;obtain ⟨oa3,oc3,hv3,-⟩:=o3.form;rw [show (os ++ [nv]).length=os.length+1 by simp] at hv3;subst hv3;have m3:qa6 (stV k ra2 rs.length rc2 oa2 os.length oc2 0) W2 w3:=(qa6.of_below bA).trans (qa6.of_row g3 fun j hj=>(qal _ _ _ _ _).2 (.inr hj));have o1':OwnI w3 W1.heap.size (.slice ra2 rs.length rc2) rs:=qfo (o1.below bA) g3 fun j h1 h2=>ha j h2 h1;have lr:∀ j,(Value.slice ra2 rs.length rc2).ownBlock=some j->j<w2.heap.size:=fun j hj=>(L2.out j ((qal _ _ _ _ _).2 (.inl hj))).2
 have lo:∀ j,(Value.slice oa3 (os.length+1) oc3).ownBlock=some j->j<w2.heap.size\/w2.heap.size<j:=fun j hj=>by
  rcases at3 with h | h
  ·exact .inl (L2.out j ((qal _ _ _ _ _).2 (.inr (h.symm.trans hj)))).2
  ·rw [hj,World.size_alloc,HZ.out] at h
   exact .inr (by cases h;omega)
 have ha':∀ j,(Value.slice ra2 rs.length rc2).ownBlock=some j->(Value.slice oa3 (os.length+1) oc3).ownBlock≠some j:=fun j hj hj'=>by
  rcases at3 with h | h
  ·exact ha j hj (h.symm.trans hj')
  ·rw [hj',World.size_alloc,HZ.out] at h
   have:=lr j hj;cases h;omega
 have Y3:=Y2.out.marked m3 fun hh=>by have:=L2.out _ hh;omega
 have f3:∀ j,w3.frozen? ⟨w2.heap.size,j,none⟩=false:=fun j=>(m3.frozen (by have:=HZ.out;omega) (fun hh=>by have:=L2.out _ hh;omega) j).trans (F2.out j);have X3:Hid (qay w3 w.heap.size (.int .i64 k) (.slice ra rs.length rc) (.slice oa os.length oc) (.int .i64 0) 4 np nv):=X2.out.marked m3 fun j hj=>by have:=L2.out j hj;omega
 have X4:Hid (qay (w3.setCell ⟨w2.heap.size,2,none⟩ (.slice oa3 (os.length+1) oc3)) w.heap.size (.int .i64 k) (.slice ra rs.length rc) (.slice oa os.length oc) (.int .i64 0) 4 np nv):=X3.out.kept fun j _ hj=>zN _ _ _ _ (by simp;omega);have O4:Hid (qag (w3.setCell ⟨w2.heap.size,2,none⟩ (.slice oa3 (os.length+1) oc3)) W1.heap.size (stV k ra2 rs.length rc2 oa3 (os.length+1) oc3 0) k rs (os ++ [nv]) 0):=⟨_,_,rfl,o1'.setOther (fun e=>by have:=lr _ e;simp at this) _,o3.setOther (fun e=>by have:=lo _ e;simp at this) _,ha'⟩
 have B4:Hid (Below w.heap.size w (w3.setCell ⟨w2.heap.size,2,none⟩ (.slice oa3 (os.length+1) oc3))):=(B2.out.trans (m3.below B2.out.size fun j hj=>by have:=L2.out j hj;omega)).setCell (by simp;omega) _;clear o1 o2 ha o3 g3 at3 bA AS m3 o1' lr lo ha' X2 V2 Y2 F2 O2 B2 X3;obtain ⟨t0,t1,t2,t3⟩:=Y3;go_wp2_with fail
 clear t0 t1 t2 t3 f3;generalize (w3.setCell ⟨w2.heap.size,2,none⟩ (.slice oa3 (os.length+1) oc3))=W4 at *;refine (qeg _ _ _ _ _ _ _ _ _ _ _ _ (by omega) (by omega)).mono ?_;rintro e w5 ⟨rfl,b5⟩;have X5:Hid (qay w5 w.heap.size (.int .i64 k) (.slice ra rs.length rc) (.slice oa os.length oc) (.int .i64 0) 4 np nv):=X4.out.below b5;have O5:Hid (qag w5 W1.heap.size (stV k ra2 rs.length rc2 oa3 (os.length+1) oc3 0) k rs (os ++ [nv]) 0):=O4.out.below b5;have B5:Hid (Below w.heap.size w w5):=B4.out.trans (b5.mono B4.out.size);clear b5 X4 O4 B4;obtain ⟨-,-,-,-,-,-,-,r0,r1,r2,r3,rf⟩:=X5.out;go_wp2;refine bodyPost_ret (v:=.tuple #[stV (goP len k) ra2 rs.length rc2 oa3 (os.length+1) oc3 (goC len k 0),.bool true]) (by simp [results,Tryz.results105,go_sem,r0,r1,r2,r3]) rfl ⟨_,rfl,?_,?_⟩
 ·have hd:qah len (g k) k rs os 0 nv=goS len k rs (os ++ [nv]) 0:=by
   unfold qah;rw [H8.1,if_neg (by decide),if_neg (by decide),if_pos rfl,if_neg H8.2]
  rw [hd];exact qag.put4 (B':=W1.heap.size) ((O5.out.replace _).recode _) zw (by omega)
 ·have:=B5.out
  go_grown
theorem qib (np nv k p v:Int):canB 3 np nv k p v=((k == 3) && numB v && (if np=9 then belB p 4 else p == np)):=by
 unfold canB;rw [if_pos rfl]
theorem qeb {nk:Int} (h3:nk≠3) (h0:nk≠0) (np nv k p v:Int):canB nk np nv k p v=qel k p v nk np nv:=by
 unfold canB qel;rw [if_neg h3];have:(nk != 0)=true:=by simp [h0]
 rw [this,Bool.true_and]
theorem qgc {a b c a' b' c':Int} (h:qel a b c a' b' c'=true):a=a'/\b=b'/\c=c':=by
 simpa [qel] using h
theorem qvr {x:I5} {len:Int} (h:qaj x.o x.r x.a x.b x.n len 4=true) (h7:x.o=7):x.n=9\/(0<=x.n/\x.n<=3):=by
 simp only [qaj,Bool.and_eq_true] at h;have h5:=h.2;unfold qa8 at h5;rw [h7] at h5;simp [inB] at h5;omega
def qc9 (w:World) (s:S4) (t:Bool) (e:Ending) (w':World):Prop:=∃ v,e=.returned (.tuple #[v,.bool t])/\qag w' w.heap.size v s.p s.rs s.os s.c/\Below w.heap.size w w'
theorem qwm (b off len cap k:Nat) (g:Nat->I5) (ra oa:Option Addr) (rc oc:Nat) (rs os:List Int) (ek eq ev:Int) (w:World) (hb:b<w.heap.size) (hI:qan w b off len g) (h1:Sl w ra rs) (h2:Sl w oa os) (hR:qch g len (k:Int) rs os 0=true):
  Calls Tryz.prog 105 #[.slice (some ⟨b,off,none⟩) len cap,stV k ra rs.length rc oa os.length oc 0,evV ek eq ev] w (qc9 w (doS g len k rs os 0 ek eq ev) (doB g len k rs os 0 ek eq ev)):=by
 obtain ⟨hp,hs,-⟩:=qbb hR;obtain ⟨⟨r0,r1,r2,r3,hrs,hn0,hn1,hn2,hn3⟩,⟨k',hkk,hk'⟩,h60,hall⟩:=qck hs;obtain rfl:k=k':=by omega
 have hk:=hk';have h4:rs.length=4:=by rw [hrs];rfl
 have hnum:allN rs=true:=by rw [hrs];simp [allN,hn0,hn1,hn2,hn3]
 have hl:(len:Int)<=30:=by
  simp only [qac,Bool.and_eq_true] at hp;have:=hp.2.1;simp [inB] at this;omega
 have hins:=qbt hp hk;obtain ⟨⟨o1,o11⟩,-⟩:=qcb hins
 have hN:∀ K P V,evK (g k).o=K->evP (g k).o (g k).n=P->evW (g k).o (g k).a rs=V->doB g len k rs os 0 ek eq ev=canB K P V ek eq ev:=by
  intro K P V hK hP hV;unfold doB nxK nxP nxW;rw [if_pos hR,if_pos hR,if_pos hR,Int.toNat_natCast,hK,hP,hV]
 have hno:doB g len k rs os 0 ek eq ev=false->doS g len k rs os 0 ek eq ev=⟨k,rs,os,0⟩:=fun h=>by
  unfold doS;rw [if_neg (by rw [h];decide)]
 have hyes:doB g len k rs os 0 ek eq ev=true->doS g len k rs os 0 ek eq ev=qah len (g k) k rs os 0 ev:=fun h=>by
  unfold doS;rw [if_pos h,Int.toNat_natCast]
 by_cases h7:(g k).o=7
 ·have eK:evK (g k).o=3:=by rw [h7];rfl
  have eP:evP (g k).o (g k).n=(g k).n:=by rw [h7];rfl
  have eV:evW (g k).o (g k).a rs=0:=by rw [h7];rfl
  have hc:=hN _ _ _ eK eP eV;rw [qib] at hc;have HN:Hid (evK (g k).o=3/\evP (g k).o (g k).n=(g k).n/\evW (g k).o (g k).a rs=0):=⟨eK,eP,eV⟩
  rcases zK (ek == 3) with t1 | t1
  case inr=>
   rw [t1] at hc;rw [hc,hno hc];exact qc1 b off len cap k g ra oa rc oc rs os ek eq ev w hl hb hI h4 h60 h1 h2 hk hp _ _ HN (.inl (by simpa using t1))
  have t1':(ek != 3)=false:=by simpa using t1
  obtain rfl:ek=3:=by simpa using t1
  rcases zK (numB ev) with t2 | t2
  case inr=>
   rw [t2] at hc;rw [hc,hno hc];exact qc1 b off len cap k g ra oa rc oc rs os 3 eq ev w hl hb hI h4 h60 h1 h2 hk hp _ _ HN (.inr (.inl ⟨t1',t2⟩))
  rcases qvr hins h7 with h9 | ⟨n0,n3⟩
  ·have t3:((g k).n != 9)=false:=by simp [h9]
   rw [t1,t2,h9,if_pos rfl] at hc;have hb4:inB eq 0 3=belB eq 4:=quq eq 4
   rcases zK (belB eq 4) with t5 | t5
   ·rw [t5] at hc
    rw [hc,hyes hc];exact qla b off len cap k g ra oa rc oc rs os eq ev w hl hb hI h4 h60 h1 h2 hk hp _ _ HN h7 t2 t3 (hb4.trans t5)
   ·rw [t5] at hc
    rw [hc,hno hc];exact qc1 b off len cap k g ra oa rc oc rs os 3 eq ev w hl hb hI h4 h60 h1 h2 hk hp _ _ HN (.inr (.inr (.inr ⟨t1',t2,t3,hb4.trans t5⟩)))
  ·have t3:((g k).n != 9)=true:=by simp;omega
   rw [t1,t2,if_neg (by omega)] at hc
   rcases zK (eq == (g k).n) with t4 | t4
   ·have e4:eq=(g k).n:=by simpa using t4
    rw [t4] at hc;rw [hc,hyes hc];exact qlb b off len cap k g ra oa rc oc rs os eq ev w hl hb hI h4 h60 h1 h2 hk hp _ _ HN h7 t2 t3 (by simpa using t4) (by simp [inB];omega)
   ·rw [t4] at hc
    rw [hc,hno hc];exact qc1 b off len cap k g ra oa rc oc rs os 3 eq ev w hl hb hI h4 h60 h1 h2 hk hp _ _ HN (.inr (.inr (.inl ⟨t1',t2,t3,by simpa using t4⟩)))
 by_cases h6:(g k).o=6
 ·have eK:evK (g k).o=2:=by rw [h6];rfl
  have hc:=hN _ _ _ eK rfl rfl;rw [qeb (by decide) (by decide)] at hc;have HN:Hid (evK (g k).o=2/\evP (g k).o (g k).n=evP (g k).o (g k).n/\evW (g k).o (g k).a rs=evW (g k).o (g k).a rs):=⟨eK,rfl,rfl⟩
  rcases zK (qel ek eq ev 2 (evP (g k).o (g k).n) (evW (g k).o (g k).a rs)) with t | t
  ·obtain ⟨rfl,rfl,rfl⟩:=qgc t
   rw [t] at hc;rw [hc,hyes hc];exact qu0 b off len cap k g ra oa rc oc rs os w hl hb hI h4 h60 h1 h2 hk hp _ _ HN h6
  ·rw [t] at hc
   rw [hc,hno hc];exact qp6 b off len cap k g ra oa rc oc rs os ek eq ev w hl hb hI h4 h60 h1 h2 hk hp 2 _ _ rfl HN t
 by_cases h8:(g k).o=8
 ·have eK:evK (g k).o=4:=by rw [h8];rfl
  have hc:=hN _ _ _ eK rfl rfl;rw [qeb (by decide) (by decide)] at hc;have HN:Hid (evK (g k).o=4/\evP (g k).o (g k).n=evP (g k).o (g k).n/\evW (g k).o (g k).a rs=evW (g k).o (g k).a rs):=⟨eK,rfl,rfl⟩
  rcases zK (qel ek eq ev 4 (evP (g k).o (g k).n) (evW (g k).o (g k).a rs)) with t | t
  ·obtain ⟨rfl,rfl,rfl⟩:=qgc t
   rw [t] at hc;rw [hc,hyes hc];by_cases h:os.length=60
   ·exact quz b off len cap k g ra oa rc oc rs os w hl hb hI h4 h60 h1 h2 hk hp _ _ HN ⟨h8,h⟩ (by simp [h])
   ·exact qs5 b off len cap k g ra oa rc oc rs os w hl hb hI h4 h60 h1 h2 hk hp _ _ HN ⟨h8,h⟩ (by simp;omega)
  ·rw [t] at hc
   rw [hc,hno hc];exact qp6 b off len cap k g ra oa rc oc rs os ek eq ev w hl hb hI h4 h60 h1 h2 hk hp 4 _ _ rfl HN t
 have eK:evK (g k).o=1:=by unfold evK;rw [if_neg h6,if_neg h7,if_neg h8]
 have eV:evW (g k).o (g k).a rs=0:=by unfold evW;rw [if_neg h6,if_neg h8]
 have hc:=hN _ _ _ eK rfl eV;rw [qeb (by decide) (by decide)] at hc;have HN:Hid (evK (g k).o=1/\evP (g k).o (g k).n=evP (g k).o (g k).n/\evW (g k).o (g k).a rs=0):=⟨eK,rfl,eV⟩
 rcases zK (qel ek eq ev 1 (evP (g k).o (g k).n) 0) with t | t
 ·obtain ⟨rfl,rfl,rfl⟩:=qgc t
  rw [t] at hc;rw [hc,hyes hc];exact qs4 b off len cap k g ra oa rc oc rs os w hl hb hI h4 h60 h1 h2 hk hp _ HN ⟨hnum,h6,h7,h8⟩
 ·rw [t] at hc
  rw [hc,hno hc];exact qp6 b off len cap k g ra oa rc oc rs os ek eq ev w hl hb hI h4 h60 h1 h2 hk hp 1 _ _ rfl HN t
