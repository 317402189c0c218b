import Derived.Test.YtkchlgmeinfeaaaGreatDoorMn9
import Derived.Test.YtkchlgmeinfeaaaGreatDoorMn11
import Derived.Deep.CutRange
namespace Go.Proofs.YtkchlgmeinfeaaaGreatDoor
open Go.Proofs.Tryz
set_option maxRecDepth 100000
set_option maxHeartbeats 2000000
open Go.RowKit
theorem qaq (w:World) (cs:Array Value) (t:TypeId) (j:Nat) {N:Nat} (h:N=w.heap.size):(w.alloc (.cells cs t)).cell? (aQ N j)=cs[j]?:=by
 subst h;simp
theorem qdt (w:World) (cs:Array Value) (t:TypeId) (j:Nat) {N:Nat} (h:N=w.heap.size):(w.alloc (.cells cs t)).frozen? (aQ N j)=false:=by
 subst h;simp
theorem qr5 (a b c d:Int) (j:Nat) (v:Int) (hj:j<4):[(set4 a b c d j v).1,(set4 a b c d j v).2.1,(set4 a b c d j v).2.2.1,(set4 a b c d j v).2.2.2]=[a,b,c,d].set j v:=by
 match j,hj with
 | 0,_=>rfl
 | 1,_=>rfl
 | 2,_=>rfl
 | 3,_=>rfl
theorem qui (p a b c d:Int) (oa:Option Addr) (on oc:Nat) (code:Int) (jr ja jb:Nat) (n o k q v:Int) (w:World) (h0:0<=p) (h1:p<=1000000000) (hj:jr<4):
  Calls prog 147 #[dV p a b c d oa on oc code,insV o jr ja jb n,evV k q v] w (rB w (dV (p+1) (set4 a b c d jr (n)).1 (set4 a b c d jr (n)).2.1 (set4 a b c d jr (n)).2.2.1 (set4 a b c d jr (n)).2.2.2 oa on oc code)):=by
 go_enter func147,ntmps147
 go_wp2_with fail
 refine (qe8 _ _ _ _ _ _ _ _ _ _ _ _ h0 h1 hj).mono ?_;rintro e w1 ⟨rfl,b1⟩;have B1:Hid (Bw w w1):=qaj (by go_grown) b1 (by simp;omega);obtain ⟨hc1,hf1⟩:=qae b1;clear b1;go_wp2;refine bodyPost_ret (v:=dV (p+1) (set4 a b c d jr (n)).1 (set4 a b c d jr (n)).2.1 (set4 a b c d jr (n)).2.2.1 (set4 a b c d jr (n)).2.2.2 oa on oc code) (by simp [results,results147,go_sem,hc1]) rfl ⟨rfl,?_⟩;have:=B1.out
 go_grown
theorem qsd (p a b c d:Int) (oa:Option Addr) (on oc:Nat) (code:Int) (jr ja jb:Nat) (n o k q v:Int) (w:World) (h0:0<=p) (h1:p<=1000000000) (hj:jr<4):
  Calls prog 153 #[dV p a b c d oa on oc code,insV o jr ja jb n,evV k q v] w (rB w (dV (p+1) (set4 a b c d jr (v)).1 (set4 a b c d jr (v)).2.1 (set4 a b c d jr (v)).2.2.1 (set4 a b c d jr (v)).2.2.2 oa on oc code)):=by
 go_enter func153,ntmps153
 go_wp2_with fail
 refine (qe8 _ _ _ _ _ _ _ _ _ _ _ _ h0 h1 hj).mono ?_;rintro e w1 ⟨rfl,b1⟩;have B1:Hid (Bw w w1):=qaj (by go_grown) b1 (by simp;omega);obtain ⟨hc1,hf1⟩:=qae b1;clear b1;go_wp2;refine bodyPost_ret (v:=dV (p+1) (set4 a b c d jr (v)).1 (set4 a b c d jr (v)).2.1 (set4 a b c d jr (v)).2.2.1 (set4 a b c d jr (v)).2.2.2 oa on oc code) (by simp [results,results153,go_sem,hc1]) rfl ⟨rfl,?_⟩;have:=B1.out
 go_grown
theorem qsc (p a b c d:Int) (oa:Option Addr) (on oc:Nat) (code:Int) (jr ja jb:Nat) (n o k q v:Int) (w:World) (h0:0<=p) (h1:p<=1000000000):
  Calls prog 152 #[dV p a b c d oa on oc code,insV o jr ja jb n,evV k q v] w (rB w (dV (p+1) a b c d oa on oc code)):=by
 go_enter func152,ntmps152
 go_wp2_with fail
 refine (qcp _ _ _ _ _ _ _ _ _ _ h0 h1).mono ?_;rintro e w1 ⟨rfl,b1⟩;have B1:Hid (Bw w w1):=qaj (by go_grown) b1 (by simp;omega);obtain ⟨hc1,hf1⟩:=qae b1;clear b1;go_wp2;refine bodyPost_ret (v:=dV (p+1) a b c d oa on oc code) (by simp [results,results152,go_sem,hc1]) rfl ⟨rfl,?_⟩;have:=B1.out
 go_grown
theorem qlx (p a b c d:Int) (oa:Option Addr) (on oc:Nat) (code:Int) (jr ja jb:Nat) (n o k q v:Int) (w:World) (_h0:0<=p) (_h1:p<=1000000000):
  Calls prog 155 #[dV p a b c d oa on oc code,insV o jr ja jb n,evV k q v] w (rB w (dV n a b c d oa on oc code)):=by
 go_enter func155,ntmps155
 go_wp2;refine bodyPost_ret (v:=dV n a b c d oa on oc code) (by simp [results,results155,go_sem]) rfl ⟨rfl,?_⟩
 go_grown
theorem qug (p a b c d:Int) (oa:Option Addr) (on oc:Nat) (code:Int) (jr ja jb:Nat) (n o k q v:Int) (w:World) (_h0:0<=p) (_h1:p<=1000000000):
  Calls prog 157 #[dV p a b c d oa on oc code,insV o jr ja jb n,evV k q v] w (rB w (dV p a b c d oa on oc 1)):=by
 go_enter func157,ntmps157
 go_wp2;refine bodyPost_ret (v:=dV p a b c d oa on oc 1) (by simp [results,results157,go_sem]) rfl ⟨rfl,?_⟩
 go_grown
theorem qqf {w W:World} {v0:Int} {v1:Int} {v2:Int} {v3:Int} {v4:Int} {v5:Option Addr} {v6:Nat} {v7:Nat} {v8:Int} {v9:Int} {v10:Int} {v11:Int} {v12:Int} {v13:Int} {v14:Int} {v15:Int} {v16:Int} (hW:((((w.alloc (oQ2 v0 v1 v2 v3 v4 v5 v6 v7 v8)).alloc (oQ3 v9 v10 v11 v12 v13)).alloc (oQ0 v14 v15 v16)).alloc (zQ1))=W):W.cell? ⟨w.heap.size,0,none⟩=some (iV v0)/\W.cell? ⟨w.heap.size,1,none⟩=some (iV v1)/\W.cell? ⟨w.heap.size,2,none⟩=some (iV v2)/\W.cell? ⟨w.heap.size,3,none⟩=some (iV v3)/\W.cell? ⟨w.heap.size,4,none⟩=some (iV v4)/\W.cell? ⟨w.heap.size,5,none⟩=some (.slice v5 v6 v7)/\W.cell? ⟨w.heap.size,6,none⟩=some (iV v8)/\W.cell? ⟨w.heap.size+1,0,none⟩=some (iV v9)/\W.cell? ⟨w.heap.size+1,1,none⟩=some (iV v10)/\W.cell? ⟨w.heap.size+1,2,none⟩=some (iV v11)/\W.cell? ⟨w.heap.size+1,3,none⟩=some (iV v12)/\W.cell? ⟨w.heap.size+1,4,none⟩=some (iV v13)/\W.cell? ⟨w.heap.size+1+1,0,none⟩=some (iV v14)/\W.cell? ⟨w.heap.size+1+1,1,none⟩=some (iV v15)/\W.cell? ⟨w.heap.size+1+1,2,none⟩=some (iV v16)/\W.cell? ⟨w.heap.size+1+1+1,0,none⟩=some (iV 0)/\W.cell? ⟨w.heap.size+1+1+1,1,none⟩=some (iV 0)/\W.cell? ⟨w.heap.size+1+1+1,2,none⟩=some (iV 0)/\W.cell? ⟨w.heap.size+1+1+1,3,none⟩=some (iV 0)/\W.cell? ⟨w.heap.size+1+1+1,4,none⟩=some (iV 0)/\W.cell? ⟨w.heap.size+1+1+1,5,none⟩=some nS/\W.cell? ⟨w.heap.size+1+1+1,6,none⟩=some (iV 0)/\(∀ j,W.frozen? ⟨w.heap.size+1+1+1,j,none⟩=false)/\w.heap.size+1+1+1<W.heap.size/\Bw w W:=by
 subst hW;exact ⟨(zS _ _ (by simp<;>omega)).trans ((zS _ _ (by simp<;>omega)).trans ((zS _ _ (by simp)).trans (by simp))),(zS _ _ (by simp<;>omega)).trans ((zS _ _ (by simp<;>omega)).trans ((zS _ _ (by simp)).trans (by simp))),(zS _ _ (by simp<;>omega)).trans ((zS _ _ (by simp<;>omega)).trans ((zS _ _ (by simp)).trans (by simp))),(zS _ _ (by simp<;>omega)).trans ((zS _ _ (by simp<;>omega)).trans ((zS _ _ (by simp)).trans (by simp))),(zS _ _ (by simp<;>omega)).trans ((zS _ _ (by simp<;>omega)).trans ((zS _ _ (by simp)).trans (by simp))),(zS _ _ (by simp<;>omega)).trans ((zS _ _ (by simp<;>omega)).trans ((zS _ _ (by simp)).trans (by simp))),(zS _ _ (by simp<;>omega)).trans ((zS _ _ (by simp<;>omega)).trans ((zS _ _ (by simp)).trans (by simp))),(zS _ _ (by simp<;>omega)).trans ((zS _ _ (by simp)).trans (by simp)),(zS _ _ (by simp<;>omega)).trans ((zS _ _ (by simp)).trans (by simp)),(zS _ _ (by simp<;>omega)).trans ((zS _ _ (by simp)).trans (by simp)),(zS _ _ (by simp<;>omega)).trans ((zS _ _ (by simp)).trans (by simp)),(zS _ _ (by simp<;>omega)).trans ((zS _ _ (by simp)).trans (by simp)),(zS _ _ (by simp)).trans (qaq _ _ _ 0 (by simp)),(zS _ _ (by simp)).trans (qaq _ _ _ 1 (by simp)),(zS _ _ (by simp)).trans (qaq _ _ _ 2 (by simp)),qaq _ _ _ 0 (by simp),qaq _ _ _ 1 (by simp),qaq _ _ _ 2 (by simp),qaq _ _ _ 3 (by simp),qaq _ _ _ 4 (by simp),qaq _ _ _ 5 (by simp),qaq _ _ _ 6 (by simp),fun j=>qdt _ _ _ j (by simp),by simp,by go_grown⟩
theorem quf (p a b c d:Int) (oa:Option Addr) (on oc:Nat) (code:Int) (jr ja jb:Nat) (n o k q v:Int) (w:World) (h0:0<=p) (h1:p<=1000000000) (hj:jr<4) (ha:ja<4) (hb:jb<4) (na1:-1000000000<=zi [a,b,c,d] ja) (na2:zi [a,b,c,d] ja<=1000000000) (nb1:-1000000000<=zi [a,b,c,d] jb) (nb2:zi [a,b,c,d] jb<=1000000000) (mb1:-1000000000000000000<=zi [a,b,c,d] ja*zi [a,b,c,d] jb) (mb2:zi [a,b,c,d] ja*zi [a,b,c,d] jb<=1000000000000000000):
  Calls prog 148 #[dV p a b c d oa on oc code,insV o jr ja jb n,evV k q v] w (rB w (dV (p+1) (set4 a b c d jr (zi [a,b,c,d] ja+zi [a,b,c,d] jb)).1 (set4 a b c d jr (zi [a,b,c,d] ja+zi [a,b,c,d] jb)).2.1 (set4 a b c d jr (zi [a,b,c,d] ja+zi [a,b,c,d] jb)).2.2.1 (set4 a b c d jr (zi [a,b,c,d] ja+zi [a,b,c,d] jb)).2.2.2 oa on oc code)):=by
 go_enter func148,ntmps148
 go_wp2_with fail
 generalize hW:((((w.alloc (oQ2 p a b c d oa on oc code)).alloc (oQ3 o jr ja jb n)).alloc (oQ0 k q v)).alloc (zQ1))=W at *;obtain ⟨k0,k1,k2,k3,k4,k5,k6,x0,x1,x2,x3,x4,y0,y1,y2,r0,r1,r2,r3,r4,r5,r6,rf,l3,BW'⟩:=qqf hW;have BW:Hid (Bw w W):=BW';clear BW';clear hW;have l0:w.heap.size<W.heap.size:=by omega
 have l1:w.heap.size+1<W.heap.size:=by omega
 have l2:w.heap.size+1+1<W.heap.size:=by omega
 have ja':(ja:Int)<4:=by omega
 have ca:W.cell? ⟨w.heap.size,1+ja,none⟩=some (iV (zi [a,b,c,d] ja)):=by
  match ja,ha with
  | 0,_=>exact k1
  | 1,_=>exact k2
  | 2,_=>exact k3
  | 3,_=>exact k4
 have cb:W.cell? ⟨w.heap.size,1+jb,none⟩=some (iV (zi [a,b,c,d] jb)):=by
  match jb,hb with
  | 0,_=>exact k1
  | 1,_=>exact k2
  | 2,_=>exact k3
  | 3,_=>exact k4
 have jb':(jb:Int)<4:=by omega
 have hw:IntKind.i64.wrap (zi [a,b,c,d] ja+zi [a,b,c,d] jb)=zi [a,b,c,d] ja+zi [a,b,c,d] jb:=by rw [IntKind.wrap_i64];omega
 generalize hN3:w.heap.size+1+1+1=N3 at *;generalize hN2:w.heap.size+1+1=N2 at *;generalize hN1:w.heap.size+1=N1 at *;have ne1:w.heap.size≠N3:=by omega
 have ne2:N1≠N3:=by omega
 have ne3:N3≠w.heap.size:=by omega
 have ne4:N3≠N1:=by omega
 have HN:Hid (w.heap.size<N3):=by show w.heap.size<N3;omega
 clear hN1 hN2 hN3
 go_region_held3 (fun w'=>w'.cell? (aQ w.heap.size 0)=some (iV p)/\w'.cell? (aQ w.heap.size 1)=some (iV a)/\w'.cell? (aQ w.heap.size 2)=some (iV b)/\w'.cell? (aQ w.heap.size 3)=some (iV c)/\w'.cell? (aQ w.heap.size 4)=some (iV d)/\w'.cell? (aQ w.heap.size 5)=some (.slice oa on oc)/\w'.cell? (aQ w.heap.size 6)=some (iV code)/\w'.cell? (aQ N1 1)=some (iV jr)/\w'.cell? (aQ N1 2)=some (iV ja)/\w'.cell? (aQ N1 3)=some (iV jb)/\w'.cell? ⟨w.heap.size,1+ja,none⟩=some (iV (zi [a,b,c,d] ja))/\w'.cell? ⟨w.heap.size,1+jb,none⟩=some (iV (zi [a,b,c,d] jb))) (go_keep)
  (first|(go_at_call 174;refine (qe8 _ _ _ _ _ _ _ _ _ _ _ _ h0 h1 hj).mono ?_;rintro e w1 ⟨rfl,b1'⟩;have b1:Bw W w1:=(nE W.heap.size W).drew.trans b1';obtain ⟨hc1,hf1⟩:=qae b1;have B1:Hid (Bw w w1):=BW.trans (b1.mono BW.size);clear b1 b1'))
 go_wp2;refine bodyPost_ret (v:=dV (p+1) (set4 a b c d jr (zi [a,b,c,d] ja+zi [a,b,c,d] jb)).1 (set4 a b c d jr (zi [a,b,c,d] ja+zi [a,b,c,d] jb)).2.1 (set4 a b c d jr (zi [a,b,c,d] ja+zi [a,b,c,d] jb)).2.2.1 (set4 a b c d jr (zi [a,b,c,d] ja+zi [a,b,c,d] jb)).2.2.2 oa on oc code) (by simp [results,results148,go_sem,hc1,l3,r0,r1,r2,r3,r4,r5,r6]) rfl ⟨rfl,?_⟩;have:=B1.out;have:=HN.out
 go_grown
theorem quj (p a b c d:Int) (oa:Option Addr) (on oc:Nat) (code:Int) (jr ja jb:Nat) (n o k q v:Int) (w:World) (h0:0<=p) (h1:p<=1000000000) (hj:jr<4) (ha:ja<4) (hb:jb<4) (na1:-1000000000<=zi [a,b,c,d] ja) (na2:zi [a,b,c,d] ja<=1000000000) (nb1:-1000000000<=zi [a,b,c,d] jb) (nb2:zi [a,b,c,d] jb<=1000000000) (mb1:-1000000000000000000<=zi [a,b,c,d] ja*zi [a,b,c,d] jb) (mb2:zi [a,b,c,d] ja*zi [a,b,c,d] jb<=1000000000000000000):
  Calls prog 149 #[dV p a b c d oa on oc code,insV o jr ja jb n,evV k q v] w (rB w (dV (p+1) (set4 a b c d jr (zi [a,b,c,d] ja - zi [a,b,c,d] jb)).1 (set4 a b c d jr (zi [a,b,c,d] ja - zi [a,b,c,d] jb)).2.1 (set4 a b c d jr (zi [a,b,c,d] ja - zi [a,b,c,d] jb)).2.2.1 (set4 a b c d jr (zi [a,b,c,d] ja - zi [a,b,c,d] jb)).2.2.2 oa on oc code)):=by
 go_enter func149,ntmps149
 go_wp2_with fail
 generalize hW:((((w.alloc (oQ2 p a b c d oa on oc code)).alloc (oQ3 o jr ja jb n)).alloc (oQ0 k q v)).alloc (zQ1))=W at *;obtain ⟨k0,k1,k2,k3,k4,k5,k6,x0,x1,x2,x3,x4,y0,y1,y2,r0,r1,r2,r3,r4,r5,r6,rf,l3,BW'⟩:=qqf hW;have BW:Hid (Bw w W):=BW';clear BW';clear hW;have l0:w.heap.size<W.heap.size:=by omega
 have l1:w.heap.size+1<W.heap.size:=by omega
 have l2:w.heap.size+1+1<W.heap.size:=by omega
 have ja':(ja:Int)<4:=by omega
 have ca:W.cell? ⟨w.heap.size,1+ja,none⟩=some (iV (zi [a,b,c,d] ja)):=by
  match ja,ha with
  | 0,_=>exact k1
  | 1,_=>exact k2
  | 2,_=>exact k3
  | 3,_=>exact k4
 have cb:W.cell? ⟨w.heap.size,1+jb,none⟩=some (iV (zi [a,b,c,d] jb)):=by
  match jb,hb with
  | 0,_=>exact k1
  | 1,_=>exact k2
  | 2,_=>exact k3
  | 3,_=>exact k4
 have jb':(jb:Int)<4:=by omega
 have hw:IntKind.i64.wrap (zi [a,b,c,d] ja - zi [a,b,c,d] jb)=zi [a,b,c,d] ja - zi [a,b,c,d] jb:=by rw [IntKind.wrap_i64];omega
 generalize hN3:w.heap.size+1+1+1=N3 at *;generalize hN2:w.heap.size+1+1=N2 at *;generalize hN1:w.heap.size+1=N1 at *;have ne1:w.heap.size≠N3:=by omega
 have ne2:N1≠N3:=by omega
 have ne3:N3≠w.heap.size:=by omega
 have ne4:N3≠N1:=by omega
 have HN:Hid (w.heap.size<N3):=by show w.heap.size<N3;omega
 clear hN1 hN2 hN3
 go_region_held3 (fun w'=>w'.cell? (aQ w.heap.size 0)=some (iV p)/\w'.cell? (aQ w.heap.size 1)=some (iV a)/\w'.cell? (aQ w.heap.size 2)=some (iV b)/\w'.cell? (aQ w.heap.size 3)=some (iV c)/\w'.cell? (aQ w.heap.size 4)=some (iV d)/\w'.cell? (aQ w.heap.size 5)=some (.slice oa on oc)/\w'.cell? (aQ w.heap.size 6)=some (iV code)/\w'.cell? (aQ N1 1)=some (iV jr)/\w'.cell? (aQ N1 2)=some (iV ja)/\w'.cell? (aQ N1 3)=some (iV jb)/\w'.cell? ⟨w.heap.size,1+ja,none⟩=some (iV (zi [a,b,c,d] ja))/\w'.cell? ⟨w.heap.size,1+jb,none⟩=some (iV (zi [a,b,c,d] jb))) (go_keep)
  (first|(go_at_call 174;refine (qe8 _ _ _ _ _ _ _ _ _ _ _ _ h0 h1 hj).mono ?_;rintro e w1 ⟨rfl,b1'⟩;have b1:Bw W w1:=(nE W.heap.size W).drew.trans b1';obtain ⟨hc1,hf1⟩:=qae b1;have B1:Hid (Bw w w1):=BW.trans (b1.mono BW.size);clear b1 b1'))
 go_wp2;refine bodyPost_ret (v:=dV (p+1) (set4 a b c d jr (zi [a,b,c,d] ja - zi [a,b,c,d] jb)).1 (set4 a b c d jr (zi [a,b,c,d] ja - zi [a,b,c,d] jb)).2.1 (set4 a b c d jr (zi [a,b,c,d] ja - zi [a,b,c,d] jb)).2.2.1 (set4 a b c d jr (zi [a,b,c,d] ja - zi [a,b,c,d] jb)).2.2.2 oa on oc code) (by simp [results,results149,go_sem,hc1,l3,r0,r1,r2,r3,r4,r5,r6]) rfl ⟨rfl,?_⟩;have:=B1.out;have:=HN.out
 go_grown
theorem quh (p a b c d:Int) (oa:Option Addr) (on oc:Nat) (code:Int) (jr ja jb:Nat) (n o k q v:Int) (w:World) (h0:0<=p) (h1:p<=1000000000) (hj:jr<4) (ha:ja<4) (hb:jb<4) (na1:-1000000000<=zi [a,b,c,d] ja) (na2:zi [a,b,c,d] ja<=1000000000) (nb1:-1000000000<=zi [a,b,c,d] jb) (nb2:zi [a,b,c,d] jb<=1000000000) (mb1:-1000000000000000000<=zi [a,b,c,d] ja*zi [a,b,c,d] jb) (mb2:zi [a,b,c,d] ja*zi [a,b,c,d] jb<=1000000000000000000):
  Calls prog 150 #[dV p a b c d oa on oc code,insV o jr ja jb n,evV k q v] w (rB w (dV (p+1) (set4 a b c d jr (zi [a,b,c,d] ja*zi [a,b,c,d] jb)).1 (set4 a b c d jr (zi [a,b,c,d] ja*zi [a,b,c,d] jb)).2.1 (set4 a b c d jr (zi [a,b,c,d] ja*zi [a,b,c,d] jb)).2.2.1 (set4 a b c d jr (zi [a,b,c,d] ja*zi [a,b,c,d] jb)).2.2.2 oa on oc code)):=by
 go_enter func150,ntmps150
 go_wp2_with fail
 generalize hW:((((w.alloc (oQ2 p a b c d oa on oc code)).alloc (oQ3 o jr ja jb n)).alloc (oQ0 k q v)).alloc (zQ1))=W at *;obtain ⟨k0,k1,k2,k3,k4,k5,k6,x0,x1,x2,x3,x4,y0,y1,y2,r0,r1,r2,r3,r4,r5,r6,rf,l3,BW'⟩:=qqf hW;have BW:Hid (Bw w W):=BW';clear BW';clear hW;have l0:w.heap.size<W.heap.size:=by omega
 have l1:w.heap.size+1<W.heap.size:=by omega
 have l2:w.heap.size+1+1<W.heap.size:=by omega
 have ja':(ja:Int)<4:=by omega
 have ca:W.cell? ⟨w.heap.size,1+ja,none⟩=some (iV (zi [a,b,c,d] ja)):=by
  match ja,ha with
  | 0,_=>exact k1
  | 1,_=>exact k2
  | 2,_=>exact k3
  | 3,_=>exact k4
 have cb:W.cell? ⟨w.heap.size,1+jb,none⟩=some (iV (zi [a,b,c,d] jb)):=by
  match jb,hb with
  | 0,_=>exact k1
  | 1,_=>exact k2
  | 2,_=>exact k3
  | 3,_=>exact k4
 have jb':(jb:Int)<4:=by omega
 have hw:IntKind.i64.wrap (zi [a,b,c,d] ja*zi [a,b,c,d] jb)=zi [a,b,c,d] ja*zi [a,b,c,d] jb:=by rw [IntKind.wrap_i64];omega
 generalize hN3:w.heap.size+1+1+1=N3 at *;generalize hN2:w.heap.size+1+1=N2 at *;generalize hN1:w.heap.size+1=N1 at *;have ne1:w.heap.size≠N3:=by omega
 have ne2:N1≠N3:=by omega
 have ne3:N3≠w.heap.size:=by omega
 have ne4:N3≠N1:=by omega
 have HN:Hid (w.heap.size<N3):=by show w.heap.size<N3;omega
 clear hN1 hN2 hN3
 go_region_held3 (fun w'=>w'.cell? (aQ w.heap.size 0)=some (iV p)/\w'.cell? (aQ w.heap.size 1)=some (iV a)/\w'.cell? (aQ w.heap.size 2)=some (iV b)/\w'.cell? (aQ w.heap.size 3)=some (iV c)/\w'.cell? (aQ w.heap.size 4)=some (iV d)/\w'.cell? (aQ w.heap.size 5)=some (.slice oa on oc)/\w'.cell? (aQ w.heap.size 6)=some (iV code)/\w'.cell? (aQ N1 1)=some (iV jr)/\w'.cell? (aQ N1 2)=some (iV ja)/\w'.cell? (aQ N1 3)=some (iV jb)/\w'.cell? ⟨w.heap.size,1+ja,none⟩=some (iV (zi [a,b,c,d] ja))/\w'.cell? ⟨w.heap.size,1+jb,none⟩=some (iV (zi [a,b,c,d] jb))) (go_keep)
  (first|(go_at_call 174;refine (qe8 _ _ _ _ _ _ _ _ _ _ _ _ h0 h1 hj).mono ?_;rintro e w1 ⟨rfl,b1'⟩;have b1:Bw W w1:=(nE W.heap.size W).drew.trans b1';obtain ⟨hc1,hf1⟩:=qae b1;have B1:Hid (Bw w w1):=BW.trans (b1.mono BW.size);clear b1 b1'))
 go_wp2;refine bodyPost_ret (v:=dV (p+1) (set4 a b c d jr (zi [a,b,c,d] ja*zi [a,b,c,d] jb)).1 (set4 a b c d jr (zi [a,b,c,d] ja*zi [a,b,c,d] jb)).2.1 (set4 a b c d jr (zi [a,b,c,d] ja*zi [a,b,c,d] jb)).2.2.1 (set4 a b c d jr (zi [a,b,c,d] ja*zi [a,b,c,d] jb)).2.2.2 oa on oc code) (by simp [results,results150,go_sem,hc1,l3,r0,r1,r2,r3,r4,r5,r6]) rfl ⟨rfl,?_⟩;have:=B1.out;have:=HN.out
 go_grown
theorem qhu (n cap:Nat) (h:n<=2000000) (hc:cap<n):Builtin.nextslicecap n cap*8<=281474976710656:=growslice_fits hc (by omega)
theorem qhz (w:World) (ty:TypeId) (B c:Nat) (v:Value) (ad:Addr) (xs:List Int) (y:Int) (h:OwnI w B v xs) (hy:w.cell? ad=some (iV y)) (hn:xs.length<=1048576) (hB:B<=w.heap.size):
  ∃ v' w',(Builtin.append_ #[30,30] ty #[v,.slice (some ad) 1 c]).run prog w=.ok v' w'/\OwnI w' B v' (xs ++ [y])/\OwnI w' B v xs/\w.grownBy w' v.ownBlock/\(v'.ownBlock=v.ownBlock\/v'.ownBlock=some w.heap.size):=by
 obtain ⟨i,hi,hz,hs,hb⟩:=qjd
 have hnews:∀ j u,([y].map (Value.int .i64))[j]? = some u->w.cell? (ad.add j)=some u:=by
  intro j u hj
  match j,hj with
  | 0,hj=>
   simp at hj;subst hj;simpa [Addr.add] using hy
 obtain ⟨v',w',h1,h2,h3,_,h5⟩:=run_append_own_at (P:=prog) w B 30 ty 3 i (iV 0) 1 8 Tryz.underlying30 hi hz hs hb rfl (by decide) v xs.length (xs.map (Value.int .i64)) h ad 1 c ([y].map (Value.int .i64)) (by simp) hnews (qha [y]) (by unfold maxLen;omega) (by omega) hB;refine ⟨v',w',h1,?_,?_,h3,h5⟩
 ·unfold OwnI
  rw [List.length_append,List.map_append];exact h2
 ·rcases h.2 with ⟨rfl,h0⟩ | ⟨g,cap,cur,rfl,hbg,hg,hnc,hcm,hcs,htake⟩
  ·exact ⟨h.1,.inl ⟨rfl,h0⟩⟩
  ·by_cases hroom:xs.length+1<=cap
   ·have hr:=run_append_room (P:=prog) w 30 ty 3 i Tryz.underlying30 hi g xs.length cap cur hg ad 1 c ([y].map (Value.int .i64)) (by rw [hs];rfl) hnews (qha [y]) hroom (by rw [hs];simp;omega)
    rw [hr] at h1;simp only [Result.ok.injEq] at h1;obtain ⟨-,rfl⟩:=h1;refine ⟨h.1,.inr ⟨g,cap,_,rfl,hbg,setRow_heap w g cur _ 3 _ hg,hnc,hcm,?_,?_⟩⟩
    ·rw [hs]
     simp only [List.size_toArray,List.length_append,List.length_take,List.length_drop,Array.length_toList,List.length_map,List.length_cons,List.length_nil];omega
    ·rw [hs]
     simp only [Nat.mul_one] at htake ⊢;rw [htake];simp only [List.append_assoc];rw [List.take_append_of_le_length (by simp),List.take_of_length_le (by simp)]
   ·have holds:∀ j u,(xs.map (Value.int .i64))[j]? = some u->w.cell? ((⟨g,0,none⟩:Addr).add j)=some u:=World.ownsRow.cells h (g:=g) rfl
    have hr:=run_append_grow (P:=prog) w 30 ty 3 i (iV 0) Tryz.underlying30 hi hz ⟨g,0,none⟩ xs.length cap (xs.map (Value.int .i64)) (by rw [hs];simp) holds ad 1 c ([y].map (Value.int .i64)) (by rw [hs];rfl) hnews (by omega) (by omega) (by rw [hb];exact qhu _ _ (by omega) (by omega));rw [hr] at h1;simp only [Result.ok.injEq] at h1;obtain ⟨-,rfl⟩:=h1;exact h.bw ((nE w.heap.size w).drew.alloc (by simp) _)
theorem qf5 {ops:Array Oper} {rest:List Oper} {op:Oper} {act:Act} {Q:Exit->Act->World->Prop} (w:World) (hgd:op.guard=none) (s x:Operand)
  (ho:op.op=.call { callee:=.builtin .append,args:=#[s,x],argTypes:=#[30,30] })
  (B c:Nat) (v:Value) (ad:Addr) (xs:List Int) (y:Int) (hs:act.eval s=v) (hx:act.eval x=.slice (some ad) 1 c) (hv:OwnI w B v xs) (hy:w.cell? ad=some (iV y)) (hn:xs.length<=1048576) (hB:B<=w.heap.size)
  (h:∀ v' w',OwnI w' B v' (xs ++ [y])->OwnI w' B v xs->w.grownBy w' v.ownBlock->(v'.ownBlock=v.ownBlock\/v'.ownBlock=some w.heap.size)->wpList prog ops Q rest (act.put op.dst v') w'):
  wpList prog ops Q (op :: rest) act w:=by
 obtain ⟨v',w',h1,h2,h3,h4,h5⟩:=qhz w op.type B c v ad xs y hv hy hn hB;refine wpList_plain hgd fun K hK=>?_;unfold Oper.wp execOp;simp only [ho,resolve,invoke,builtin,Sem.run_bind,Sem.run_pure,Result.andThen_ok,List.map_toArray,List.map_cons,List.map_nil,hs,hx,h1];exact hK _ _ (h v' w' h2 h3 h4 h5)
theorem qj8 (p a b c d:Int) (oa:Option Addr) (on oc:Nat) (code:Int) (jr ja jb:Nat) (n o k q v:Int) (w:World) (_h0:0<=p) (_h1:p<=1000000000) (ha:ja<4) (hz:(zi [a,b,c,d] ja == 0)=true):
  Calls prog 156 #[dV p a b c d oa on oc code,insV o jr ja jb n,evV k q v] w (rB w (dV n a b c d oa on oc code)):=by
 have ca:((((w.alloc (oQ2 p a b c d oa on oc code)).alloc (oQ3 o jr ja jb n)).alloc (oQ0 k q v)).alloc (zQ1)).cell? ⟨w.heap.size,1+ja,none⟩=some (iV (zi [a,b,c,d] ja)):=by
  refine (zS _ _ (by simp<;>omega)).trans ((zS _ _ (by simp<;>omega)).trans ((zS _ _ (by simp)).trans ?_))
  match ja,ha with
  | 0,_=>simp [zi]
  | 1,_=>simp [zi]
  | 2,_=>simp [zi]
  | 3,_=>simp [zi]
 have ja':(ja:Int)<4:=by omega
 go_enter func156,ntmps156
 go_wp2_with fail
 refine (qlx _ _ _ _ _ _ _ _ _ _ _ _ _ _ _ _ _ _ _h0 _h1).mono ?_;rintro e w1 ⟨rfl,b1⟩;have B1:Hid (Bw w w1):=qaj (by go_grown) b1 (by simp;omega);obtain ⟨hc1,hf1⟩:=qae b1;clear b1;go_wp2;refine bodyPost_ret (v:=dV n a b c d oa on oc code) (by simp [results,results156,go_sem,hc1]) rfl ⟨rfl,?_⟩;have:=B1.out
 go_grown
theorem qlz (p a b c d:Int) (oa:Option Addr) (on oc:Nat) (code:Int) (jr ja jb:Nat) (n o k q v:Int) (w:World) (h0:0<=p) (h1:p<=1000000000) (ha:ja<4) (hz:(zi [a,b,c,d] ja == 0)=false):
  Calls prog 156 #[dV p a b c d oa on oc code,insV o jr ja jb n,evV k q v] w (rB w (dV (p+1) a b c d oa on oc code)):=by
 have ca:((((w.alloc (oQ2 p a b c d oa on oc code)).alloc (oQ3 o jr ja jb n)).alloc (oQ0 k q v)).alloc (zQ1)).cell? ⟨w.heap.size,1+ja,none⟩=some (iV (zi [a,b,c,d] ja)):=by
  refine (zS _ _ (by simp<;>omega)).trans ((zS _ _ (by simp<;>omega)).trans ((zS _ _ (by simp)).trans ?_))
  match ja,ha with
  | 0,_=>simp [zi]
  | 1,_=>simp [zi]
  | 2,_=>simp [zi]
  | 3,_=>simp [zi]
 have ja':(ja:Int)<4:=by omega
 go_enter func156,ntmps156
 go_wp2_with fail
 refine (qcp _ _ _ _ _ _ _ _ _ _ h0 h1).mono ?_;rintro e w1 ⟨rfl,b1⟩;have B1:Hid (Bw w w1):=qaj (by go_grown) b1 (by simp;omega);obtain ⟨hc1,hf1⟩:=qae b1;clear b1;go_wp2;refine bodyPost_ret (v:=dV (p+1) a b c d oa on oc code) (by simp [results,results156,go_sem,hc1]) rfl ⟨rfl,?_⟩;have:=B1.out
 go_grown
theorem qut {w W:World} {v0:Int} {v1:Int} {v2:Int} {v3:Int} {v4:Int} {v5:Option Addr} {v6:Nat} {v7:Nat} {v8:Int} {v9:Int} {v10:Int} {v11:Int} {v12:Int} {v13:Int} {v14:Int} {v15:Int} {v16:Int} (hW:((((w.alloc (oQ2 v0 v1 v2 v3 v4 v5 v6 v7 v8)).alloc (oQ3 v9 v10 v11 v12 v13)).alloc (oQ0 v14 v15 v16)).alloc (zQ1))=W):W.cell? ⟨w.heap.size,0,none⟩=some (iV v0)/\W.cell? ⟨w.heap.size,1,none⟩=some (iV v1)/\W.cell? ⟨w.heap.size,2,none⟩=some (iV v2)/\W.cell? ⟨w.heap.size,3,none⟩=some (iV v3)/\W.cell? ⟨w.heap.size,4,none⟩=some (iV v4)/\W.cell? ⟨w.heap.size,5,none⟩=some (.slice v5 v6 v7)/\W.cell? ⟨w.heap.size,6,none⟩=some (iV v8)/\W.cell? ⟨w.heap.size+1,0,none⟩=some (iV v9)/\W.cell? ⟨w.heap.size+1,1,none⟩=some (iV v10)/\W.cell? ⟨w.heap.size+1,2,none⟩=some (iV v11)/\W.cell? ⟨w.heap.size+1,3,none⟩=some (iV v12)/\W.cell? ⟨w.heap.size+1,4,none⟩=some (iV v13)/\W.cell? ⟨w.heap.size+1+1,0,none⟩=some (iV v14)/\W.cell? ⟨w.heap.size+1+1,1,none⟩=some (iV v15)/\W.cell? ⟨w.heap.size+1+1,2,none⟩=some (iV v16)/\W.cell? ⟨w.heap.size+1+1+1,0,none⟩=some (iV 0)/\W.cell? ⟨w.heap.size+1+1+1,1,none⟩=some (iV 0)/\W.cell? ⟨w.heap.size+1+1+1,2,none⟩=some (iV 0)/\W.cell? ⟨w.heap.size+1+1+1,3,none⟩=some (iV 0)/\W.cell? ⟨w.heap.size+1+1+1,4,none⟩=some (iV 0)/\W.cell? ⟨w.heap.size+1+1+1,5,none⟩=some nS/\W.cell? ⟨w.heap.size+1+1+1,6,none⟩=some (iV 0)/\(∀ j,W.frozen? ⟨w.heap.size+1+1+1,j,none⟩=false)/\w.heap.size+1+1+1<W.heap.size/\Bw w W:=by
 subst hW;exact ⟨(zS _ _ (by simp<;>omega)).trans ((zS _ _ (by simp<;>omega)).trans ((zS _ _ (by simp)).trans (by simp))),(zS _ _ (by simp<;>omega)).trans ((zS _ _ (by simp<;>omega)).trans ((zS _ _ (by simp)).trans (by simp))),(zS _ _ (by simp<;>omega)).trans ((zS _ _ (by simp<;>omega)).trans ((zS _ _ (by simp)).trans (by simp))),(zS _ _ (by simp<;>omega)).trans ((zS _ _ (by simp<;>omega)).trans ((zS _ _ (by simp)).trans (by simp))),(zS _ _ (by simp<;>omega)).trans ((zS _ _ (by simp<;>omega)).trans ((zS _ _ (by simp)).trans (by simp))),(zS _ _ (by simp<;>omega)).trans ((zS _ _ (by simp<;>omega)).trans ((zS _ _ (by simp)).trans (by simp))),(zS _ _ (by simp<;>omega)).trans ((zS _ _ (by simp<;>omega)).trans ((zS _ _ (by simp)).trans (by simp))),(zS _ _ (by simp<;>omega)).trans ((zS _ _ (by simp)).trans (by simp)),(zS _ _ (by simp<;>omega)).trans ((zS _ _ (by simp)).trans (by simp)),(zS _ _ (by simp<;>omega)).trans ((zS _ _ (by simp)).trans (by simp)),(zS _ _ (by simp<;>omega)).trans ((zS _ _ (by simp)).trans (by simp)),(zS _ _ (by simp<;>omega)).trans ((zS _ _ (by simp)).trans (by simp)),(zS _ _ (by simp)).trans (qaq _ _ _ 0 (by simp)),(zS _ _ (by simp)).trans (qaq _ _ _ 1 (by simp)),(zS _ _ (by simp)).trans (qaq _ _ _ 2 (by simp)),qaq _ _ _ 0 (by simp),qaq _ _ _ 1 (by simp),qaq _ _ _ 2 (by simp),qaq _ _ _ 3 (by simp),qaq _ _ _ 4 (by simp),qaq _ _ _ 5 (by simp),qaq _ _ _ 6 (by simp),fun j=>qdt _ _ _ j (by simp),by simp,by go_grown⟩
theorem qj7 (p a b c d:Int) (oa:Option Addr) (on oc:Nat) (code:Int) (jr ja jb:Nat) (n o k q v:Int) (w:World) (h0:0<=p) (h1:p<=1000000000) (hj:jr<4) (ha:ja<4) (hb:jb<4) (hlt:zi [a,b,c,d] ja<zi [a,b,c,d] jb):
  Calls prog 151 #[dV p a b c d oa on oc code,insV o jr ja jb n,evV k q v] w (rB w (dV (p+1) (set4 a b c d jr (1)).1 (set4 a b c d jr (1)).2.1 (set4 a b c d jr (1)).2.2.1 (set4 a b c d jr (1)).2.2.2 oa on oc code)):=by
 go_enter func151,ntmps151
 go_wp2_with fail
 generalize hW:((((w.alloc (oQ2 p a b c d oa on oc code)).alloc (oQ3 o jr ja jb n)).alloc (oQ0 k q v)).alloc (zQ1))=W at *;obtain ⟨k0,k1,k2,k3,k4,k5,k6,x0,x1,x2,x3,x4,y0,y1,y2,r0,r1,r2,r3,r4,r5,r6,rf,l3,BW'⟩:=qut hW;have BW:Hid (Bw w W):=BW';clear BW';clear hW;have l0:w.heap.size<W.heap.size:=by omega
 have l1:w.heap.size+1<W.heap.size:=by omega
 have l2:w.heap.size+1+1<W.heap.size:=by omega
 have ja':(ja:Int)<4:=by omega
 have ca:W.cell? ⟨w.heap.size,1+ja,none⟩=some (iV (zi [a,b,c,d] ja)):=by
  match ja,ha with
  | 0,_=>exact k1
  | 1,_=>exact k2
  | 2,_=>exact k3
  | 3,_=>exact k4
 have cb:W.cell? ⟨w.heap.size,1+jb,none⟩=some (iV (zi [a,b,c,d] jb)):=by
  match jb,hb with
  | 0,_=>exact k1
  | 1,_=>exact k2
  | 2,_=>exact k3
  | 3,_=>exact k4
 have jb':(jb:Int)<4:=by omega
 go_quiet (fail)
 go_wp2_with fail
 refine (qe8 _ _ _ _ _ _ _ _ _ _ _ _ h0 h1 hj).mono ?_;rintro e w1 ⟨rfl,b1'⟩;have b1:Bw W w1:=(yE (nE W.heap.size W) nq).trans b1';obtain ⟨hc1,hf1⟩:=qae b1;have B1:Hid (Bw w w1):=BW.trans (b1.mono BW.size);clear b1 b1';go_wp2;refine bodyPost_ret (v:=dV (p+1) (set4 a b c d jr (1)).1 (set4 a b c d jr (1)).2.1 (set4 a b c d jr (1)).2.2.1 (set4 a b c d jr (1)).2.2.2 oa on oc code) (by simp [results,results151,go_sem,hc1,l3,r0,r1,r2,r3,r4,r5,r6]) rfl ⟨rfl,?_⟩;have:=B1.out
 go_grown
theorem qly (p a b c d:Int) (oa:Option Addr) (on oc:Nat) (code:Int) (jr ja jb:Nat) (n o k q v:Int) (w:World) (h0:0<=p) (h1:p<=1000000000) (hj:jr<4) (ha:ja<4) (hb:jb<4) (hlt:¬ zi [a,b,c,d] ja<zi [a,b,c,d] jb):
  Calls prog 151 #[dV p a b c d oa on oc code,insV o jr ja jb n,evV k q v] w (rB w (dV (p+1) (set4 a b c d jr (0)).1 (set4 a b c d jr (0)).2.1 (set4 a b c d jr (0)).2.2.1 (set4 a b c d jr (0)).2.2.2 oa on oc code)):=by
 go_enter func151,ntmps151
 go_wp2_with fail
 generalize hW:((((w.alloc (oQ2 p a b c d oa on oc code)).alloc (oQ3 o jr ja jb n)).alloc (oQ0 k q v)).alloc (zQ1))=W at *;obtain ⟨k0,k1,k2,k3,k4,k5,k6,x0,x1,x2,x3,x4,y0,y1,y2,r0,r1,r2,r3,r4,r5,r6,rf,l3,BW'⟩:=qut hW;have BW:Hid (Bw w W):=BW';clear BW';clear hW;have l0:w.heap.size<W.heap.size:=by omega
 have l1:w.heap.size+1<W.heap.size:=by omega
 have l2:w.heap.size+1+1<W.heap.size:=by omega
 have ja':(ja:Int)<4:=by omega
 have ca:W.cell? ⟨w.heap.size,1+ja,none⟩=some (iV (zi [a,b,c,d] ja)):=by
  match ja,ha with
  | 0,_=>exact k1
  | 1,_=>exact k2
  | 2,_=>exact k3
  | 3,_=>exact k4
 have cb:W.cell? ⟨w.heap.size,1+jb,none⟩=some (iV (zi [a,b,c,d] jb)):=by
  match jb,hb with
  | 0,_=>exact k1
  | 1,_=>exact k2
  | 2,_=>exact k3
  | 3,_=>exact k4
 have jb':(jb:Int)<4:=by omega
 go_quiet (fail)
 go_wp2_with fail
 refine (qe8 _ _ _ _ _ _ _ _ _ _ _ _ h0 h1 hj).mono ?_;rintro e w1 ⟨rfl,b1'⟩;have b1:Bw W w1:=(yE (nE W.heap.size W) nq).trans b1';obtain ⟨hc1,hf1⟩:=qae b1;have B1:Hid (Bw w w1):=BW.trans (b1.mono BW.size);clear b1 b1';go_wp2;refine bodyPost_ret (v:=dV (p+1) (set4 a b c d jr (0)).1 (set4 a b c d jr (0)).2.1 (set4 a b c d jr (0)).2.2.1 (set4 a b c d jr (0)).2.2.2 oa on oc code) (by simp [results,results151,go_sem,hc1,l3,r0,r1,r2,r3,r4,r5,r6]) rfl ⟨rfl,?_⟩;have:=B1.out
 go_grown
theorem qwi {w W:World} {v0:Int} {v1:Int} {v2:Int} {v3:Int} {v4:Int} {v5:Option Addr} {v6:Nat} {v7:Nat} {v8:Int} {v9:Int} {v10:Int} {v11:Int} {v12:Int} {v13:Int} {v14:Int} {v15:Int} {v16:Int} (hW:((((w.alloc (oQ2 v0 v1 v2 v3 v4 v5 v6 v7 v8)).alloc (oQ3 v9 v10 v11 v12 v13)).alloc (oQ0 v14 v15 v16)).alloc (zQ1))=W):W.cell? ⟨w.heap.size,0,none⟩=some (iV v0)/\W.cell? ⟨w.heap.size,1,none⟩=some (iV v1)/\W.cell? ⟨w.heap.size,2,none⟩=some (iV v2)/\W.cell? ⟨w.heap.size,3,none⟩=some (iV v3)/\W.cell? ⟨w.heap.size,4,none⟩=some (iV v4)/\W.cell? ⟨w.heap.size,5,none⟩=some (.slice v5 v6 v7)/\W.cell? ⟨w.heap.size,6,none⟩=some (iV v8)/\W.cell? ⟨w.heap.size+1,0,none⟩=some (iV v9)/\W.cell? ⟨w.heap.size+1,1,none⟩=some (iV v10)/\W.cell? ⟨w.heap.size+1,2,none⟩=some (iV v11)/\W.cell? ⟨w.heap.size+1,3,none⟩=some (iV v12)/\W.cell? ⟨w.heap.size+1,4,none⟩=some (iV v13)/\W.cell? ⟨w.heap.size+1+1,0,none⟩=some (iV v14)/\W.cell? ⟨w.heap.size+1+1,1,none⟩=some (iV v15)/\W.cell? ⟨w.heap.size+1+1,2,none⟩=some (iV v16)/\W.cell? ⟨w.heap.size+1+1+1,0,none⟩=some (iV 0)/\W.cell? ⟨w.heap.size+1+1+1,1,none⟩=some (iV 0)/\W.cell? ⟨w.heap.size+1+1+1,2,none⟩=some (iV 0)/\W.cell? ⟨w.heap.size+1+1+1,3,none⟩=some (iV 0)/\W.cell? ⟨w.heap.size+1+1+1,4,none⟩=some (iV 0)/\W.cell? ⟨w.heap.size+1+1+1,5,none⟩=some nS/\W.cell? ⟨w.heap.size+1+1+1,6,none⟩=some (iV 0)/\(∀ j,W.frozen? ⟨w.heap.size+1+1+1,j,none⟩=false)/\w.heap.size+1+1+1<W.heap.size/\Bw w W/\(∀ j,W.frozen? ⟨w.heap.size,j,none⟩=false):=by
 subst hW;exact ⟨(zS _ _ (by simp<;>omega)).trans ((zS _ _ (by simp<;>omega)).trans ((zS _ _ (by simp)).trans (by simp))),(zS _ _ (by simp<;>omega)).trans ((zS _ _ (by simp<;>omega)).trans ((zS _ _ (by simp)).trans (by simp))),(zS _ _ (by simp<;>omega)).trans ((zS _ _ (by simp<;>omega)).trans ((zS _ _ (by simp)).trans (by simp))),(zS _ _ (by simp<;>omega)).trans ((zS _ _ (by simp<;>omega)).trans ((zS _ _ (by simp)).trans (by simp))),(zS _ _ (by simp<;>omega)).trans ((zS _ _ (by simp<;>omega)).trans ((zS _ _ (by simp)).trans (by simp))),(zS _ _ (by simp<;>omega)).trans ((zS _ _ (by simp<;>omega)).trans ((zS _ _ (by simp)).trans (by simp))),(zS _ _ (by simp<;>omega)).trans ((zS _ _ (by simp<;>omega)).trans ((zS _ _ (by simp)).trans (by simp))),(zS _ _ (by simp<;>omega)).trans ((zS _ _ (by simp)).trans (by simp)),(zS _ _ (by simp<;>omega)).trans ((zS _ _ (by simp)).trans (by simp)),(zS _ _ (by simp<;>omega)).trans ((zS _ _ (by simp)).trans (by simp)),(zS _ _ (by simp<;>omega)).trans ((zS _ _ (by simp)).trans (by simp)),(zS _ _ (by simp<;>omega)).trans ((zS _ _ (by simp)).trans (by simp)),(zS _ _ (by simp)).trans (qaq _ _ _ 0 (by simp)),(zS _ _ (by simp)).trans (qaq _ _ _ 1 (by simp)),(zS _ _ (by simp)).trans (qaq _ _ _ 2 (by simp)),qaq _ _ _ 0 (by simp),qaq _ _ _ 1 (by simp),qaq _ _ _ 2 (by simp),qaq _ _ _ 3 (by simp),qaq _ _ _ 4 (by simp),qaq _ _ _ 5 (by simp),qaq _ _ _ 6 (by simp),fun j=>qdt _ _ _ j (by simp),by simp,by go_grown,fun j=>((qae (zT _ _)).2 _ _ (by simp<;>omega)).trans (((qae (zT _ _)).2 _ _ (by simp<;>omega)).trans (((qae (zT _ _)).2 _ _ (by simp)).trans (qdt _ _ _ j rfl)))⟩
theorem qp0 (p a b c d:Int) (oa:Option Addr) (oc:Nat) (os:List Int) (code:Int) (jr ja jb:Nat) (n o k q v:Int) (B:Nat) (w:World) (h0:0<=p) (h1:p<=1000000000) (hn:os.length<=1048576) (hB:B<=w.heap.size) (hO:OwnI w B (.slice oa os.length oc) os):
  Calls prog 154 #[dV p a b c d oa os.length oc code,insV o jr ja jb n,evV k q v] w fun e w'=>∃ oa' oc',e=.returned (dV (p+1) a b c d oa' (os.length+1) oc' code)/\OwnI w' B (.slice oa' (os.length+1) oc') (os ++ [v])/\OwnI w' B (.slice oa os.length oc) os/\w.grownBy w' (Value.slice oa os.length oc).ownBlock/\∀ j,(Value.slice oa' (os.length+1) oc').ownBlock=some j->(Value.slice oa os.length oc).ownBlock=some j\/w.heap.size<=j:=by
 have HO:Hid (OwnI w B (.slice oa os.length oc) os):=hO;have LO:Hid (∀ j,(Value.slice oa os.length oc).ownBlock=some j->j<w.heap.size):=fun j hj=>(hO.lt j hj).2;clear hO
 go_enter func154,ntmps154
 go_wp2_with (at_builtin;refine qdp rfl ?_)
 unfold STOP;generalize hW:((((w.alloc (oQ2 p a b c d oa os.length oc code)).alloc (oQ3 o jr ja jb n)).alloc (oQ0 k q v)).alloc (zQ1))=W at *;obtain ⟨k0,k1,k2,k3,k4,k5,k6,x0,x1,x2,x3,x4,y0,y1,y2,r0,r1,r2,r3,r4,r5,r6,rf,l3,BW',kf⟩:=qwi hW;have BW:Hid (Bw w W):=BW';clear BW'
 have HZ:Hid (w.heap.size+1+1+1+1=W.heap.size):=by
  subst hW;show _=_;simp
 clear hW;have hy:(W.alloc (.cells #[iV v] 3)).cell? ⟨w.heap.size+1+1+1+1,0,none⟩=some (iV v):=qaq _ _ _ 0 (by rw [HZ.out]);have bA:=zT W (.cells #[iV v] 3);refine qf5 _ rfl _ _ rfl B 1 (.slice oa os.length oc) ⟨w.heap.size+1+1+1+1,0,none⟩ os v rfl rfl ((HO.bw BW.out).bw bA) hy hn (by have:=BW.size;simp;omega) ?_;intro v1 w1 o1 p1 g1 at1
 obtain ⟨G,cap,hv1⟩:∃ G cap,v1=.slice (some (aQ G 0)) (os.length+1) cap:=by
  rcases o1.2 with ⟨rfl,e0⟩ | ⟨G,cap,cur,rfl,_⟩
  ·simp at e0
  ·exact ⟨G,cap,by simp⟩
 subst hv1;have zA:(W.alloc (.cells #[iV v] 3)).heap.size=W.heap.size+1:=by simp
 have hz:=HZ.out
 have nR:∀ j,w.heap.size<=j->some j≠(Value.slice oa os.length oc).ownBlock:=fun j hj h=>by
  have:=LO.out j h.symm;omega
 have e0:=qk1 g1 (b:=w.heap.size) (by omega) (nR _ (by omega));have e3:=qk1 g1 (b:=w.heap.size+1+1+1) (by omega) (nR _ (by omega));have q0:=(e0.1 0).trans ((zS _ _ (by omega)).trans k0);have q1:=(e0.1 1).trans ((zS _ _ (by omega)).trans k1);have q2:=(e0.1 2).trans ((zS _ _ (by omega)).trans k2);have q3:=(e0.1 3).trans ((zS _ _ (by omega)).trans k3);have q4:=(e0.1 4).trans ((zS _ _ (by omega)).trans k4);have q5:=(e0.1 5).trans ((zS _ _ (by omega)).trans k5);have q6:=(e0.1 6).trans ((zS _ _ (by omega)).trans k6);have qf:=(e0.2 5).trans (((qae bA).2 _ _ (by omega)).trans (kf 5));have s0:=(e3.1 0).trans ((zS _ _ l3).trans r0);have s1:=(e3.1 1).trans ((zS _ _ l3).trans r1);have s2:=(e3.1 2).trans ((zS _ _ l3).trans r2);have s3:=(e3.1 3).trans ((zS _ _ l3).trans r3);have s4:=(e3.1 4).trans ((zS _ _ l3).trans r4);have s5:=(e3.1 5).trans ((zS _ _ l3).trans r5);have s6:=(e3.1 6).trans ((zS _ _ l3).trans r6);have sf:=fun j=>(e3.2 j).trans (((qae bA).2 _ _ l3).trans (rf j));have z1:w.heap.size+1+1+1+1<w1.heap.size:=by have:=g1.size;omega
 have GW:Hid (w.grownBy w1 (Value.slice oa os.length oc).ownBlock):=(qay (zZ (BW.trans (bA.mono BW.size))) _).trans g1
 have A2:Hid (∀ j,(Value.slice (some ⟨G,0,none⟩) (os.length+1) cap).ownBlock=some j->(Value.slice oa os.length oc).ownBlock=some j\/w.heap.size<=j):=by
  intro j h5
  rcases at1 with h8 | h8
  ·exact .inl (h8.symm.trans h5)
  ·rw [h5] at h8
   simp only [nG] at h8;exact .inr (by omega)
 have AT:Hid (∀ j,w.heap.size<=j->j<w.heap.size+1+1+1+1->(Value.slice (some ⟨G,0,none⟩) (os.length+1) cap).ownBlock≠some j):=by
  intro j h5 h6 h7
  rcases at1 with h8 | h8
  ·exact nR j h5 (h7.symm.trans h8)
  ·rw [h7] at h8
   simp only [nG] at h8;omega
 clear hz HZ zA bA g1 e0 e3 k0 k1 k2 k3 k4 k5 k6 kf r0 r1 r2 r3 r4 r5 r6 rf l3 x0 x1 x2 x3 x4 y0 y1 y2 BW hy;have O1:Hid (OwnI w1 B _ _):=o1;have P1:Hid (OwnI w1 B _ _):=p1;clear o1 p1 at1;go_wp2_with fail
 refine (qcp _ _ _ _ _ _ _ _ _ _ h0 h1).mono ?_;rintro e w2 ⟨rfl,b2⟩;obtain ⟨hc2,hf2⟩:=qae b2;have zz:(w1.setCell (aQ w.heap.size 5) (sG G (os.length+1) cap)).heap.size=w1.heap.size:=by simp
 have l3:w.heap.size+1+1+1<(w1.setCell (aQ w.heap.size 5) (sG G (os.length+1) cap)).heap.size:=by omega
 have gS:=zV (p:=(aQ w.heap.size 5)) (World.grownBy.refl w1 (some w.heap.size)) (.inl rfl) (sG G (os.length+1) cap);have e3:=qk1 gS (b:=w.heap.size+1+1+1) (by omega) (by simp;omega);have t0:=(hc2 _ 0 l3).trans ((e3.1 0).trans s0);have t1:=(hc2 _ 1 l3).trans ((e3.1 1).trans s1);have t2:=(hc2 _ 2 l3).trans ((e3.1 2).trans s2);have t3:=(hc2 _ 3 l3).trans ((e3.1 3).trans s3);have t4:=(hc2 _ 4 l3).trans ((e3.1 4).trans s4);have t5:=(hc2 _ 5 l3).trans ((e3.1 5).trans s5);have t6:=(hc2 _ 6 l3).trans ((e3.1 6).trans s6);have tf:=fun j=>(hf2 _ j l3).trans ((e3.2 j).trans (sf j));have O2:Hid (OwnI w2 B _ _):=(O1.setOther (p:=(aQ w.heap.size 5)) (AT.out _ (by simp) (by simp;omega)) _).bw b2;have P2:Hid (OwnI w2 B _ _):=(P1.setOther (p:=(aQ w.heap.size 5)) (fun h=>nR _ (by simp) h.symm) _).bw b2;have G2:Hid (w.grownBy w2 (Value.slice oa os.length oc).ownBlock):=(zV (p:=(aQ w.heap.size 5)) GW.out (.inr (by simp)) _).trans (qay (zZ b2) _);have A3:Hid ((Value.slice (some (aQ G 0)) (os.length+1) cap).ownBlock≠some (w.heap.size+1+1+1)):=AT.out _ (by omega) (by omega);have N3:Hid ((Value.slice oa os.length oc).ownBlock≠some (w.heap.size+1+1+1)):=fun h=>nR _ (by omega) h.symm;clear b2 hc2 hf2 zz l3 gS e3 s0 s1 s2 s3 s4 s5 s6 sf q0 q1 q2 q3 q4 q5 q6 qf O1 P1 GW AT nR;go_wp2_with fail
 refine bodyPost_ret (v:=dV (p+1) a b c d (some ⟨G,0,none⟩) (os.length+1) cap code) (by simp [results,results154,go_sem,t0,t1,t2,t3,t4,t5,t6]) rfl ⟨_,_,rfl,?_,?_,?_,A2.out⟩
 ·repeat (refine OwnI.setOther ?_ A3.out _)
  exact O2.out
 ·repeat (refine OwnI.setOther ?_ N3.out _)
  exact P2.out
 ·repeat (refine zV ?_ (.inr (by simp;omega)) _)
  exact G2.out
open Go.Sort
def qss (w:World) (B:Nat) (v0:Value) (os:List Int) (p' a' b' c' d':Int) (os':List Int) (code':Int) (e:Ending) (w':World):Prop:=
 ∃ oa' oc',e=.returned (dV p' a' b' c' d' oa' os'.length oc' code')/\OwnI w' B (.slice oa' os'.length oc') os'/\OwnI w' B v0 os/\w.grownBy w' v0.ownBlock/\∀ j,(Value.slice oa' os'.length oc').ownBlock=some j->v0.ownBlock=some j\/w.heap.size<=j
theorem qhp {w w':World} {row:Option Nat} {B:Nat} (h:w.grownBy w' row) (hr:∀ j,row=some j->B<=j) (hB:B<=w.heap.size):Below B w w':=
 ⟨h.os,h.tape,h.output,h.size,fun k hk=>h.block k (by omega) (fun e=>by have:=hr k e.symm;omega)⟩
structure DC (w:World) (N:Nat) (p a b c d:Int) (o:Option Addr) (n m:Nat) (code:Int):Prop where
 d0:w.cell? (aQ N 0)=some (iV p)
 d1:w.cell? (aQ N 1)=some (iV a)
 d2:w.cell? (aQ N 2)=some (iV b)
 d3:w.cell? (aQ N 3)=some (iV c)
 d4:w.cell? (aQ N 4)=some (iV d)
 d5:w.cell? (aQ N 5)=some (.slice o n m)
 d6:w.cell? (aQ N 6)=some (iV code)
theorem DC.kept {w w':World} {N:Nat} {p a b c d:Int} {o:Option Addr} {n m:Nat} {code:Int} (h:DC w N p a b c d o n m code) (hb:w'.heap[N]? = w.heap[N]?):DC w' N p a b c d o n m code:=
 ⟨(zH hb).trans h.d0,(zH hb).trans h.d1,(zH hb).trans h.d2,(zH hb).trans h.d3,(zH hb).trans h.d4,(zH hb).trans h.d5,(zH hb).trans h.d6⟩
theorem DC.lt {w:World} {N:Nat} {p a b c d:Int} {o:Option Addr} {n m:Nat} {code:Int} (h:DC w N p a b c d o n m code):N<w.heap.size:=zJ w _ h.d0
theorem DC.new (w:World) (p a b c d:Int) (o:Option Addr) (n m:Nat) (code:Int) (t:TypeId):DC (w.alloc (.cells #[iV p,iV a,iV b,iV c,iV d,.slice o n m,iV code] t)) w.heap.size p a b c d o n m code:=
 ⟨zW _ _ _ 0 rfl,zW _ _ _ 1 rfl,zW _ _ _ 2 rfl,zW _ _ _ 3 rfl,zW _ _ _ 4 rfl,zW _ _ _ 5 rfl,zW _ _ _ 6 rfl⟩
theorem qwr (w:World) (N:Nat) (v0 v1 v2 v3 v4 v5 v6:Value):w.grownBy (((((((w.setCell (aQ N 0) v0).setCell (aQ N 1) v1).setCell (aQ N 2) v2).setCell (aQ N 3) v3).setCell (aQ N 4) v4).setCell (aQ N 5) v5).setCell (aQ N 6) v6) (some N):=by
 repeat (refine zV ?_ (.inl rfl) _)
 exact World.grownBy.refl _ _
theorem DC.put {w:World} {N:Nat} {p a b c d:Int} {o:Option Addr} {n m:Nat} {code:Int} (h:DC w N p a b c d o n m code) (p' a' b' c' d':Int) (o':Option Addr) (n' m':Nat) (code':Int):
  DC (((((((w.setCell (aQ N 0) (iV p')).setCell (aQ N 1) (iV a')).setCell (aQ N 2) (iV b')).setCell (aQ N 3) (iV c')).setCell (aQ N 4) (iV d')).setCell (aQ N 5) (.slice o' n' m')).setCell (aQ N 6) (iV code')) N p' a' b' c' d' o' n' m' code':=by
 obtain ⟨d0,d1,d2,d3,d4,d5,d6⟩:=h;exact ⟨by go_cell,by go_cell,by go_cell,by go_cell,by go_cell,by go_cell,by go_cell⟩
def qgj (w:World) (N5 B:Nat) (k:Int) (ra oa:Option Addr) (rc oc:Nat) (a1 a2 a3 a4:Int) (os:List Int) (ek eq ev:Int) (o1:Option Addr) (c1:Nat) (p' b1 b2 b3 b4:Int) (os':List Int) (code':Int) (wx:World) (N:Nat):Prop:=
 qa6 wx w.heap.size (iV k) (.slice ra 4 rc) (.slice oa os.length oc) (iV 0) ek eq ev/\DC wx N5 k a1 a2 a3 a4 o1 os.length c1 0/\(∃ o2 c2,DC wx N p' b1 b2 b3 b4 o2 os'.length c2 code'/\OwnI wx B (.slice o2 os'.length c2) os')/\OwnI wx B (.slice o1 os.length c1) os/\Bw w wx
theorem qgj.of_alloc {w:World} {N5 B:Nat} {k:Int} {ra oa:Option Addr} {rc oc:Nat} {a1 a2 a3 a4:Int} {os:List Int} {ek eq ev:Int} {o1:Option Addr} {c1:Nat} {p' b1 b2 b3 b4:Int} {os':List Int} {code':Int} {w8:World} {o2:Option Addr} {c2:Nat} (X8:qa6 w8 w.heap.size (iV k) (.slice ra 4 rc) (.slice oa os.length oc) (iV 0) ek eq ev) (Y8:DC w8 N5 k a1 a2 a3 a4 o1 os.length c1 0) (N8:OwnI w8 B (.slice o2 os'.length c2) os') (M8:OwnI w8 B (.slice o1 os.length c1) os) (B8:Bw w w8) (t:TypeId):
  qgj w N5 B k ra oa rc oc a1 a2 a3 a4 os ek eq ev o1 c1 p' b1 b2 b3 b4 os' code' (w8.alloc (.cells #[iV p',iV b1,iV b2,iV b3,iV b4,.slice o2 os'.length c2,iV code'] t)) w8.heap.size:=by
 have ba:=zT w8 (.cells #[iV p',iV b1,iV b2,iV b3,iV b4,.slice o2 os'.length c2,iV code'] t);exact ⟨X8.bw ba,Y8.kept (ba.block N5 Y8.lt),⟨o2,c2,DC.new w8 _ _ _ _ _ _ _ _ _ _,N8.bw ba⟩,M8.bw ba,B8.trans (ba.mono B8.size)⟩
theorem qgj.of_put {w:World} {N5 B:Nat} {k:Int} {ra oa:Option Addr} {rc oc:Nat} {a1 a2 a3 a4:Int} {os:List Int} {ek eq ev:Int} {o1:Option Addr} {c1:Nat} {p' b1 b2 b3 b4:Int} {os':List Int} {code':Int} {w8:World} {o2:Option Addr} {c2 N:Nat} (X8:qa6 w8 w.heap.size (iV k) (.slice ra 4 rc) (.slice oa os.length oc) (iV 0) ek eq ev) (Y8:DC w8 N5 k a1 a2 a3 a4 o1 os.length c1 0) (N8:OwnI w8 B (.slice o2 os'.length c2) os') (M8:OwnI w8 B (.slice o1 os.length c1) os) (B8:Bw w w8)
  (hN:N5<N) (h5:w.heap.size+1+1<N5) (hZ:DC w8 N 0 0 0 0 0 none 0 0 0) (nM:∀ j,(Value.slice o1 os.length c1).ownBlock=some j->j≠N) (nN:∀ j,(Value.slice o2 os'.length c2).ownBlock=some j->j≠N):
  qgj w N5 B k ra oa rc oc a1 a2 a3 a4 os ek eq ev o1 c1 p' b1 b2 b3 b4 os' code' (((((((w8.setCell (aQ N 0) (iV p')).setCell (aQ N 1) (iV b1)).setCell (aQ N 2) (iV b2)).setCell (aQ N 3) (iV b3)).setCell (aQ N 4) (iV b4)).setCell (aQ N 5) (.slice o2 os'.length c2)).setCell (aQ N 6) (iV code')) N:=by
 have gz:=qwr w8 N (iV p') (iV b1) (iV b2) (iV b3) (iV b4) (.slice o2 os'.length c2) (iV code');have l8:=Y8.lt;refine ⟨?_,?_,⟨o2,c2,?_,?_⟩,?_,?_⟩
 ·exact X8.kept fun j h1 h2=>gz.block j (by omega) (by simp;omega)
 ·exact Y8.kept (gz.block N5 (by omega) (by simp;omega))
 ·exact hZ.put _ _ _ _ _ _ _ _ _
 ·repeat (refine OwnI.setOther ?_ (fun e=>nN _ e rfl) _)
  exact N8
 ·repeat (refine OwnI.setOther ?_ (fun e=>nM _ e rfl) _)
  exact M8
 ·exact B8.trans (qhp gz (fun j hj=>by simp at hj;omega) B8.size)
def qa2 (len:Nat) (p a b c d:Int) (os:List Int) (p' a' b' c' d':Int) (os':List Int) (code':Int):S4:=
 if qc0 [a',b',c',d']=false\/(60:Int)<(os'.length:Int) then ⟨p,[a,b,c,d],os,2⟩ else if belB p' len=false then ⟨p,[a',b',c',d'],os',2⟩ else ⟨p',[a',b',c',d'],os',code'⟩
theorem qvi (b off len cap:Nat) (g:Nat->I5) (p code:Int) (ra oa:Option Addr) (rc oc:Nat) (rs os:List Int) (ek eq ev:Int) (w:World) (hlen:len<=maxLen) (hb:b<w.heap.size) (hI:qan w b off len g) (hr:rs.length<=1048576) (ho:os.length<=1048576) (h1:Sl w ra rs) (h2:Sl w oa os) (hD:canB (nxK g len p rs os code) (nxP g len p rs os code) (nxW g len p rs os code) ek eq ev=false) (hP:qac g len 4=true):
  Calls prog 81 #[.slice (some (aQ b off)) len cap,stV p ra rs.length rc oa os.length oc code,evV ek eq ev] w (qcy w ⟨p,rs,os,code⟩ false):=by
 have HI:Hid (qan w b off len g):=hI;have H1:Hid (Sl w ra rs):=h1;have H2:Hid (Sl w oa os):=h2;have HL:Hid (len<=maxLen):=hlen;have HP:Hid (qac g len 4=true):=hP;clear hI h1 h2 hlen hP
 go_enter func81,ntmps81
 go_wp2_with fail
 have X:=qa6.new w (iV (p)) (.slice ra rs.length rc) (.slice oa os.length oc) (iV code) ek eq ev 73 47 73
 have BW:Hid (Bw w (((w.alloc (oQ1 p ra rs.length rc oa os.length oc code)).alloc (oQ0 ek eq ev)).alloc (zQ0))):=by
  show Below _ _ _
  go_grown
 generalize (((w.alloc (oQ1 p ra rs.length rc oa os.length oc code)).alloc (oQ0 ek eq ev)).alloc (zQ0))=W at *;have HX:Hid (qa6 W w.heap.size (iV (p)) (.slice ra rs.length rc) (.slice oa os.length oc) (iV code) ek eq ev):=X;have l2:=X.lt;obtain ⟨p0,p1,p2,p3,e0,e1,e2,r0,r1,r2,r3,rf⟩:=X;have p0':=cell_regrown p0;have p1':=cell_regrown p1;have p2':=cell_regrown p2;have p3':=cell_regrown p3;have e0':=cell_regrown e0;have e1':=cell_regrown e1;have e2':=cell_regrown e2;have HB':Hid (∀ d os',Bw w (grow (redrawn W d) os')):=fun d os'=>BW.trans ((below_regrown W d os').mono BW.size);clear p0 p1 p2 p3 e0 e1 e2 r0 r1 r2 r3 rf;refine wp_region_quiet_below (by kernel_rfl) (by kernel_rfl) ?_
 repeat (quiet_step (first|(go_at_call 77;exact Calls.regrown_of (qgd b off len cap g (p) code ra oa rc oc rs os _ HL.out (zL hb (HB'.out _ _).size) (HI.bw (HB'.out _ _) hb) ho (H1.bw (HB'.out _ _)) (H2.bw (HB'.out _ _)) HP.out))|(go_at_call 118;exact Calls.regrown_of (qhj _ _ _ _ _ _ _))))
 refine wpQuiet_nil ?_;intro _ hw';obtain ⟨⟨dq,osq⟩,hw''⟩:=hw';subst hw'';have b3:=below_regrown W dq osq;have B3:Hid (Bw w (grow (redrawn W dq) osq)):=BW.trans (b3.mono BW.size);have X:=HX.bw b3;have l3:=X.lt;generalize grow (redrawn W dq) osq=w3 at *;clear b3 p0' p1' p2' p3' e0' e1' e2' BW HB' l2 HX;obtain ⟨p0,p1,p2,p3,e0,e1,e2,r0,r1,r2,r3,rf⟩:=X;go_wp2_with fail
 refine (qfj p code ra oa rc oc rs os _ hr ho (H1.bw B3.out) (H2.bw B3.out)).mono ?_;rintro e w4 ⟨v,rfl,o4,b4⟩;obtain ⟨ra2,rc2,oa2,oc2,rfl,-,-⟩:=o4.read;obtain ⟨hc4,hf4⟩:=qae b4;have O4:Hid (qaf w4 w3.heap.size (stV p ra2 rs.length rc2 oa2 os.length oc2 code) p rs os code):=o4;have B4:Hid (Bw w w4):=B3.trans (b4.mono B3.size);clear o4 b4;go_wp2;refine bodyPost_ret (v:=.tuple #[stV p ra2 rs.length rc2 oa2 os.length oc2 code,.bool false]) (by simp [results,results81,go_sem,hc4,l3,r0,r1,r2,r3]) rfl ⟨_,rfl,?_,?_⟩
 ·exact qaf.put4 (B':=w3.heap.size) O4.out l3 (by omega)
 ·have:=B4.out
  go_grown
theorem qnd (p a b c d:Int) (oa:Option Addr) (oc:Nat) (os:List Int) (code p' a' b' c' d':Int) (oa':Option Addr) (oc':Nat) (os':List Int) (code':Int) (n B:Nat) (w:World) (h1:OwnI w B (.slice oa os.length oc) os) (h2:OwnI w B (.slice oa' os'.length oc') os') (S:S4) (hS:qa2 n p a b c d os p' a' b' c' d' os' code'=S):
  Calls prog 121 #[dV p a b c d oa os.length oc code,dV p' a' b' c' d' oa' os'.length oc' code',iV n] w fun e w'=>∃ o3 c3 x1 x2 x3 x4,e=.returned (dV S.p x1 x2 x3 x4 o3 S.os.length c3 S.c)/\S.rs=[x1,x2,x3,x4]/\OwnI w' B (.slice o3 S.os.length c3) S.os/\Bw w w':=by
 subst hS;unfold qa2
 rcases zK (qc0 [a',b',c',d']) with hr | hr
 ·by_cases hn:(60:Int)<(os'.length:Int)
  ·rw [nC (.inr hn)]
   refine (qlo _ _ _ _ _ _ _ _ _ _ _ _ _ _ _ _ _ _ _ _ hr hn).mono ?_;rintro e w1 ⟨rfl,b1⟩;exact ⟨_,_,_,_,_,_,rfl,rfl,h1.bw b1,b1⟩
  ·rw [nB (by simp [hr,hn])]
   rcases zK (belB p' n) with hp | hp
   ·rw [nB (by simp [hp])]
    refine (qpw _ _ _ _ _ _ _ _ _ _ _ _ _ _ _ _ _ _ _ _ hr hn hp).mono ?_;rintro e w1 ⟨rfl,b1⟩;exact ⟨_,_,_,_,_,_,rfl,rfl,h2.bw b1,b1⟩
   ·rw [nC hp]
    refine (qne _ _ _ _ _ _ _ _ _ _ _ _ _ _ _ _ _ _ _ _ hr hn hp).mono ?_;rintro e w1 ⟨rfl,b1⟩;exact ⟨_,_,_,_,_,_,rfl,rfl,h2.bw b1,b1⟩
 ·rw [nC (.inl hr)]
  refine (qlq _ _ _ _ _ _ _ _ _ _ _ _ _ _ _ _ _ _ _ _ hr).mono ?_;rintro e w1 ⟨rfl,b1⟩;exact ⟨_,_,_,_,_,_,rfl,rfl,h1.bw b1,b1⟩
theorem qbk (b off len cap k:Nat) (g:Nat->I5) (ra oa:Option Addr) (rc oc:Nat) (a1 a2 a3 a4:Int) (os:List Int) (ek eq ev:Int) (w:World) (F:FuncId) (hE:∀ args wx,(callFunc F args).run prog wx=.ok (.enter F args) wx) (p' b1 b2 b3 b4:Int) (os':List Int) (code':Int) (hlen:len<=maxLen) (hb:b<w.heap.size) (hI:qan w b off len g) (ho:os.length<=60) (h1:Sl w ra [a1,a2,a3,a4]) (h2:Sl w oa os) (hk:k<len) (hD:canB (nxK g len k [a1,a2,a3,a4] os 0) (nxP g len k [a1,a2,a3,a4] os 0) (nxW g len k [a1,a2,a3,a4] os 0) ek eq ev=true)
  (hF:∀ wx,Calls prog 120 #[iV (g k).o] wx (rB wx (.func (.func F) #[] #[])))
  (hS:∀ (o1:Option Addr) (c1 B:Nat) (wx:World),B<=wx.heap.size->OwnI wx B (.slice o1 os.length c1) os->Calls prog F #[dV k a1 a2 a3 a4 o1 os.length c1 0,insV (g k).o (g k).r (g k).a (g k).b (g k).n,evV ek eq ev] wx (qss wx B (.slice o1 os.length c1) os p' b1 b2 b3 b4 os' code')):
  Calls prog 81 #[.slice (some (aQ b off)) len cap,stV k ra 4 rc oa os.length oc 0,evV ek eq ev] w (qcy w (qa2 len k a1 a2 a3 a4 os p' b1 b2 b3 b4 os' code') true):=by
 have HI:Hid (qan w b off len g):=hI;have H1:Hid (Sl w ra [a1,a2,a3,a4]):=h1;have H2:Hid (Sl w oa os):=h2;have HL:Hid (len<=maxLen):=hlen;have HP:Hid (qac g len 4=true):=(qbb (qcw hD)).1;have HF:Hid (∀ wx,Calls prog 120 #[iV (g k).o] wx (rB wx (.func (.func F) #[] #[]))):=hF;have HS:Hid (∀ (o1:Option Addr) (c1 B:Nat) (wx:World),B<=wx.heap.size->OwnI wx B (.slice o1 os.length c1) os->Calls prog F #[dV k a1 a2 a3 a4 o1 os.length c1 0,insV (g k).o (g k).r (g k).a (g k).b (g k).n,evV ek eq ev] wx (qss wx B (.slice o1 os.length c1) os p' b1 b2 b3 b4 os' code')):=hS;have ho':=ho;replace ho:os.length<=1048576:=by omega
 have hk':(k:Int)<(len:Int):=by omega
 have hl':(len:Int)<=9223372036854775807:=by have:=HL.out;unfold maxLen at this;omega
 clear hI h1 h2 hlen hF hS;generalize hT:qa2 len k a1 a2 a3 a4 os p' b1 b2 b3 b4 os' code'=S;have HT:Hid (qa2 len k a1 a2 a3 a4 os p' b1 b2 b3 b4 os' code'=S):=hT;clear hT
 go_enter func81,ntmps81
 go_wp2_with fail
 have X:=qa6.new w (iV (k)) (.slice ra 4 rc) (.slice oa os.length oc) (iV 0) ek eq ev 73 47 73
 have BW:Hid (Bw w (((w.alloc (oQ1 k ra 4 rc oa os.length oc 0)).alloc (oQ0 ek eq ev)).alloc (zQ0))):=by
  show Below _ _ _
  go_grown
 generalize (((w.alloc (oQ1 k ra 4 rc oa os.length oc 0)).alloc (oQ0 ek eq ev)).alloc (zQ0))=W at *;have HX:Hid (qa6 W w.heap.size (iV (k)) (.slice ra 4 rc) (.slice oa os.length oc) (iV 0) ek eq ev):=X;have l2:=X.lt;obtain ⟨p0,p1,p2,p3,e0,e1,e2,r0,r1,r2,r3,rf⟩:=X;have p0':=cell_regrown p0;have p1':=cell_regrown p1;have p2':=cell_regrown p2;have p3':=cell_regrown p3;have e0':=cell_regrown e0;have e1':=cell_regrown e1;have e2':=cell_regrown e2;have HB':Hid (∀ d os',Bw w (grow (redrawn W d) os')):=fun d os'=>BW.trans ((below_regrown W d os').mono BW.size);clear p0 p1 p2 p3 e0 e1 e2 r0 r1 r2 r3 rf;refine wp_region_quiet_below (by kernel_rfl) (by kernel_rfl) ?_
 repeat (quiet_step (first|(go_at_call 77;exact Calls.regrown_of (qgd b off len cap g (k) 0 ra oa rc oc [a1,a2,a3,a4] os _ HL.out (zL hb (HB'.out _ _).size) (HI.bw (HB'.out _ _) hb) ho (H1.bw (HB'.out _ _)) (H2.bw (HB'.out _ _)) HP.out))|(go_at_call 118;exact Calls.regrown_of (qhj _ _ _ _ _ _ _))))
 refine wpQuiet_nil ?_;intro _ hw';obtain ⟨⟨dq,osq⟩,hw''⟩:=hw';subst hw'';have b3:=below_regrown W dq osq;have B3:Hid (Bw w (grow (redrawn W dq) osq)):=BW.trans (b3.mono BW.size);have X:=HX.bw b3;have l3:=X.lt;generalize grow (redrawn W dq) osq=w3 at *;clear b3 p0' p1' p2' p3' e0' e1' e2' BW HB' l2 HX;obtain ⟨p0,p1,p2,p3,e0,e1,e2,r0,r1,r2,r3,rf⟩:=X;clear hD;obtain ⟨c0,c1,c2,c3,c4⟩:=HI.bw B3.out hb k hk;have X3:qa6 w3 w.heap.size (iV k) (.slice ra 4 rc) (.slice oa os.length oc) (iV 0) ek eq ev:=⟨p0,p1,p2,p3,e0,e1,e2,r0,r1,r2,r3,rf⟩
 have bX:=zT w3 (oQ3 (g k).o (g k).r (g k).a (g k).b (g k).n);have X4:Hid (qa6 (w3.alloc (oQ3 (g k).o (g k).r (g k).a (g k).b (g k).n)) w.heap.size (iV k) (.slice ra 4 rc) (.slice oa os.length oc) (iV 0) ek eq ev):=X3.bw bX;have B4:Hid (Bw w (w3.alloc (oQ3 (g k).o (g k).r (g k).a (g k).b (g k).n))):=B3.trans (bX.mono B3.size);obtain ⟨q0,q1,q2,q3,-,-,-,-,-,-,-,-⟩:=X4.out;clear X3 bX;go_wp2_with fail
 have i0:(w3.alloc (oQ3 (g k).o (g k).r (g k).a (g k).b (g k).n)).cell? (aQ w3.heap.size 0)=some (iV (g k).o):=zW _ _ _ 0 rfl;have i1:(w3.alloc (oQ3 (g k).o (g k).r (g k).a (g k).b (g k).n)).cell? (aQ w3.heap.size 1)=some (iV (g k).r):=zW _ _ _ 1 rfl;have i2:(w3.alloc (oQ3 (g k).o (g k).r (g k).a (g k).b (g k).n)).cell? (aQ w3.heap.size 2)=some (iV (g k).a):=zW _ _ _ 2 rfl;have i3:(w3.alloc (oQ3 (g k).o (g k).r (g k).a (g k).b (g k).n)).cell? (aQ w3.heap.size 3)=some (iV (g k).b):=zW _ _ _ 3 rfl;have i4:(w3.alloc (oQ3 (g k).o (g k).r (g k).a (g k).b (g k).n)).cell? (aQ w3.heap.size 4)=some (iV (g k).n):=zW _ _ _ 4 rfl;have zX:w3.heap.size<(w3.alloc (oQ3 (g k).o (g k).r (g k).a (g k).b (g k).n)).heap.size:=by simp
 clear p0 p1 p2 p3 e0 e1 e2 r0 r1 r2 r3 rf c0 c1 c2 c3 c4 q0 q1 q2 q3;generalize w3.alloc (oQ3 (g k).o (g k).r (g k).a (g k).b (g k).n)=W4 at *;generalize w3.heap.size=N3 at *;refine (qml (k:Int) 0 ra oa rc oc a1 a2 a3 a4 os _ ho (H1.bw B4.out) (H2.bw B4.out)).mono ?_;rintro e w5 ⟨o1,c1,rfl,o5,b5⟩;have X5:Hid (qa6 w5 w.heap.size (iV k) (.slice ra 4 rc) (.slice oa os.length oc) (iV 0) ek eq ev):=X4.bw b5;have B5:Hid (Bw w w5):=B4.trans (b5.mono B4.size);have O5:Hid (OwnI w5 W4.heap.size (.slice o1 os.length c1) os):=o5;obtain ⟨hc5,-⟩:=qae b5;replace i0:=(hc5 _ 0 zX).trans i0;replace i1:=(hc5 _ 1 zX).trans i1;replace i2:=(hc5 _ 2 zX).trans i2;replace i3:=(hc5 _ 3 zX).trans i3;replace i4:=(hc5 _ 4 zX).trans i4;have z5:W4.heap.size<=w5.heap.size:=b5.size;clear hc5 b5 o5 X4 B4 B3;go_wp2_with fail
 have bY:=zT w5 (oQ2 k a1 a2 a3 a4 o1 os.length c1 0);have X6:Hid (qa6 (w5.alloc (oQ2 k a1 a2 a3 a4 o1 os.length c1 0)) w.heap.size (iV k) (.slice ra 4 rc) (.slice oa os.length oc) (iV 0) ek eq ev):=X5.bw bY;have Y6:Hid (DC (w5.alloc (oQ2 k a1 a2 a3 a4 o1 os.length c1 0)) w5.heap.size k a1 a2 a3 a4 o1 os.length c1 0):=DC.new w5 _ _ _ _ _ _ _ _ _ _;have B6:Hid (Bw w (w5.alloc (oQ2 k a1 a2 a3 a4 o1 os.length c1 0))):=B5.trans (bY.mono B5.size);have O6:Hid (OwnI (w5.alloc (oQ2 k a1 a2 a3 a4 o1 os.length c1 0)) W4.heap.size (.slice o1 os.length c1) os):=O5.bw bY;have LO:Hid (∀ j,(Value.slice o1 os.length c1).ownBlock=some j->W4.heap.size<=j/\j<w5.heap.size):=fun j hj=>O5.lt j hj;have l5:N3<w5.heap.size:=by omega
 obtain ⟨hcY,-⟩:=qae bY;replace i0:=(hcY _ 0 l5).trans i0;replace i1:=(hcY _ 1 l5).trans i1;replace i2:=(hcY _ 2 l5).trans i2;replace i3:=(hcY _ 3 l5).trans i3;replace i4:=(hcY _ 4 l5).trans i4;have z6:w5.heap.size<(w5.alloc (oQ2 k a1 a2 a3 a4 o1 os.length c1 0)).heap.size:=by simp
 clear X5 B5 O5 bY hcY;generalize w5.alloc (oQ2 k a1 a2 a3 a4 o1 os.length c1 0)=W6 at *;generalize w5.heap.size=N5 at *;obtain ⟨j0,j1,j2,j3,j4,j5,j6⟩:=Y6.out;obtain ⟨-,-,-,-,e0,e1,e2,-,-,-,-,-⟩:=X6.out;have g1:N3<W6.heap.size:=by omega
 have g2:w.heap.size+1<W6.heap.size:=by omega
 have d61:W6.heap.size≠N3:=by omega
 have d62:W6.heap.size≠N5:=by omega
 have d63:W6.heap.size≠w.heap.size+1:=by omega
 have z6':N5<=W6.heap.size:=nJ z6
 go_cut [10] from 26 to 32 (fun s wx=>∃ N:Nat,s=.pointer (some (aQ N 0))/\Hid (qgj w N5 W4.heap.size k ra oa rc oc a1 a2 a3 a4 os ek eq ev o1 c1 p' b1 b2 b3 b4 os' code' wx N))
 case first=>
  go_region_held3 (fun w'=>w'.cell? (aQ N3 0)=some (iV (g k).o)/\w'.cell? (aQ N3 1)=some (iV (g k).r)/\w'.cell? (aQ N3 2)=some (iV (g k).a)/\w'.cell? (aQ N3 3)=some (iV (g k).b)/\w'.cell? (aQ N3 4)=some (iV (g k).n)/\w'.cell? (aQ N5 0)=some (iV k)/\w'.cell? (aQ N5 1)=some (iV a1)/\w'.cell? (aQ N5 2)=some (iV a2)/\w'.cell? (aQ N5 3)=some (iV a3)/\w'.cell? (aQ N5 4)=some (iV a4)/\w'.cell? (aQ N5 5)=some (.slice o1 os.length c1)/\w'.cell? (aQ N5 6)=some (iV 0)/\w'.cell? ⟨w.heap.size+1,0,none⟩=some (iV ek)/\w'.cell? ⟨w.heap.size+1,1,none⟩=some (iV eq)/\w'.cell? ⟨w.heap.size+1,2,none⟩=some (iV ev)) (go_keep)
   (first
    | (go_at_call 120;refine (HF.out _).mono ?_;rintro e w7 ⟨rfl,b7⟩;have q7:Bw W6 w7:=qaj (by go_grown) b7 (by simp);obtain ⟨hc7,hf7⟩:=qae b7;obtain ⟨hq7,-⟩:=qae q7;have t0:=(hq7 (N3) 0 g1).trans i0;have t1:=(hq7 (N3) 1 g1).trans i1;have t2:=(hq7 (N3) 2 g1).trans i2;have t3:=(hq7 (N3) 3 g1).trans i3;have t4:=(hq7 (N3) 4 g1).trans i4;have t5:=(hq7 (N5) 0 z6).trans j0;have t6:=(hq7 (N5) 1 z6).trans j1;have t7:=(hq7 (N5) 2 z6).trans j2;have t8:=(hq7 (N5) 3 z6).trans j3;have t9:=(hq7 (N5) 4 z6).trans j4;have t10:=(hq7 (N5) 5 z6).trans j5;have t11:=(hq7 (N5) 6 z6).trans j6;have t12:=(hq7 (w.heap.size+1) 0 g2).trans e0;have t13:=(hq7 (w.heap.size+1) 1 g2).trans e1;have t14:=(hq7 (w.heap.size+1) 2 g2).trans e2;clear hq7;have Q7:Hid (Bw W6 w7):=q7;have l71:N3<w7.heap.size:=zL g1 q7.size;have l72:N5<w7.heap.size:=zL z6 q7.size;have l73:w.heap.size+1<w7.heap.size:=zL g2 q7.size;have l75:N5<=w7.heap.size:=nJ l72;have l74:=b7.size;(try simp only [World.size_alloc,World.size_drew,Nat.add_one_le_iff] at l74);have d71:w7.heap.size≠N3:=Nat.ne_of_gt l71;have d72:w7.heap.size≠N5:=Nat.ne_of_gt l72;have d73:w7.heap.size≠w.heap.size+1:=Nat.ne_of_gt l73;have O7:Hid (OwnI w7 W4.heap.size (.slice o1 os.length c1) os):=O6.bw q7;clear b7 q7)
    | (refine (HS.out o1 c1 W4.heap.size _ (by have:=Q7.size;simp;omega) (O7.bw (by go_grown))).mono ?_;rintro e w8 ⟨o2,c2,rfl,n8,m8,g8,a8⟩;(try simp only [World.size_alloc] at a8);have A8:Hid (_):=a8;have ne8:∀ j,(j<W4.heap.size\/N5<=j)->some j≠(Value.slice o1 os.length c1).ownBlock:=(fun j hj h=>by have:=LO.out j h.symm;omega);have q8:=(qay (zZ (show Bw w7 _ by go_grown)) (Value.slice o1 os.length c1).ownBlock).trans g8;have v3:=qk1 q8 (b:=N3) l71 (ne8 _ (.inl zX));have v5:=qk1 q8 (b:=N5) l72 (ne8 _ (.inr (nA _)));have v1:=qk1 q8 (b:=w.heap.size+1) l73 (ne8 _ (.inl (by omega)));have s0:=(v3.1 0).trans t0;have s1:=(v3.1 1).trans t1;have s2:=(v3.1 2).trans t2;have s3:=(v3.1 3).trans t3;have s4:=(v3.1 4).trans t4;have s5:=(v5.1 0).trans t5;have s6:=(v5.1 1).trans t6;have s7:=(v5.1 2).trans t7;have s8:=(v5.1 3).trans t8;have s9:=(v5.1 4).trans t9;have s10:=(v5.1 5).trans t10;have s11:=(v5.1 6).trans t11;have s12:=(v1.1 0).trans t12;have s13:=(v1.1 1).trans t13;have s14:=(v1.1 2).trans t14;have hc8:=fun b o hb hn=>(qk1 g8 (b:=b) hb (ne8 _ (.inr hn))).1 o;have hf8:=fun b o hb hn=>(qk1 g8 (b:=b) hb (ne8 _ (.inr hn))).2 o;have N8:Hid (OwnI w8 W4.heap.size (.slice o2 os'.length c2) os'):=n8;have M8:Hid (OwnI w8 W4.heap.size (.slice o1 os.length c1) os):=m8;have G8:Hid (w7.grownBy w8 (Value.slice o1 os.length c1).ownBlock):=q8;clear n8 m8 g8 q8 a8 v3 v5 v1 ne8))
  all_goals
   go_wp2_with fail
   go_meet
   case rel=>
    have K8:∀ j,j<W6.heap.size->(j<W4.heap.size\/N5<=j)->w8.heap[j]? = W6.heap[j]?:=fun j h1 h2=>(G8.block j (by have:=Q7.size;omega) (fun h=>by have:=LO.out j h.symm;omega)).trans (Q7.block j h1);have X8:=X6.kept (w':=w8) fun j h1 h2=>K8 j (by omega) (.inl (by omega));have Y8:=Y6.kept (w':=w8) (K8 N5 z6 (.inr (nA _)));have B8:Bw w w8:=(B6.trans (Q7.mono B6.size)).trans (qhp G8.out (fun j hj=>by have:=LO.out j hj;omega) (by have:=(B6.trans (Q7.mono B6.size)).size;omega));have zz8:w7.heap.size<=w8.heap.size:=G8.size
    first
    | (refine ⟨w8.heap.size, by with_reducible rfl, ?_⟩
       exact qgj.of_alloc X8 Y8 N8.out M8.out B8 _)
    | (refine ⟨w7.heap.size, by with_reducible rfl, ?_⟩
       have nM:∀ j,(Value.slice o1 os.length c1).ownBlock=some j->j≠w7.heap.size:=fun j hj=>by have:=LO.out j hj;omega
       exact qgj.of_put X8 Y8 N8.out M8.out B8 (by omega) (by omega) ⟨by rw [hc8 _ _ (by simp) l75]; simp, by rw [hc8 _ _ (by simp) l75]; simp, by rw [hc8 _ _ (by simp) l75]; simp, by rw [hc8 _ _ (by simp) l75]; simp, by rw [hc8 _ _ (by simp) l75]; simp, by rw [hc8 _ _ (by simp) l75]; simp, by rw [hc8 _ _ (by simp) l75]; simp⟩ nM (fun j hj => by
       rcases A8.out j hj with h | h
       ·exact nM j h
       ·omega))
    | (refine ⟨W6.heap.size, by with_reducible rfl, ?_⟩
       have nM:∀ j,(Value.slice o1 os.length c1).ownBlock=some j->j≠W6.heap.size:=fun j hj=>by have:=LO.out j hj;omega
       exact qgj.of_put X8 Y8 N8.out M8.out B8 (by omega) (by omega) ⟨by rw [hc8 _ _ (by simpa using l74) z6', hc7 _ _ (by simp)]; simp, by rw [hc8 _ _ (by simpa using l74) z6', hc7 _ _ (by simp)]; simp, by rw [hc8 _ _ (by simpa using l74) z6', hc7 _ _ (by simp)]; simp, by rw [hc8 _ _ (by simpa using l74) z6', hc7 _ _ (by simp)]; simp, by rw [hc8 _ _ (by simpa using l74) z6', hc7 _ _ (by simp)]; simp, by rw [hc8 _ _ (by simpa using l74) z6', hc7 _ _ (by simp)]; simp, by rw [hc8 _ _ (by simpa using l74) z6', hc7 _ _ (by simp)]; simp⟩ nM (fun j hj => by
       rcases A8.out j hj with h | h
       ·exact nM j h
       ·omega))
 case rest=>
  obtain ⟨N,rfl,HA⟩:=hcut;obtain ⟨XC,YC,⟨o2,c2,ZC,NC⟩,MC,BC⟩:=HA.out;have HXC:Hid (qa6 wc w.heap.size (iV k) (.slice ra 4 rc) (.slice oa os.length oc) (iV 0) ek eq ev):=XC;have HNC:Hid (OwnI wc W4.heap.size (.slice o2 os'.length c2) os'):=NC;have HMC:Hid (OwnI wc W4.heap.size (.slice o1 os.length c1) os):=MC;have HBC:Hid (Bw w wc):=BC;have zC:W4.heap.size<=wc.heap.size:=by have:=YC.lt;omega
  clear HA XC NC MC BC i0 i1 i2 i3 i4 j0 j1 j2 j3 j4 j5 j6 e0 e1 e2 X6 Y6 B6 O6;obtain ⟨j0,j1,j2,j3,j4,j5,j6⟩:=YC;obtain ⟨i0,i1,i2,i3,i4,i5,i6⟩:=ZC;go_wp2_with fail
  refine (qnd (k:Int) a1 a2 a3 a4 o1 c1 os 0 p' b1 b2 b3 b4 o2 c2 os' code' len W4.heap.size wc HMC.out HNC.out S HT.out).mono ?_;rintro e w9 ⟨o3,c3,x1,x2,x3,x4,rfl,hrs,o9,b9⟩;have X9:Hid (qa6 w9 w.heap.size (iV k) (.slice ra 4 rc) (.slice oa os.length oc) (iV 0) ek eq ev):=HXC.bw b9;have B9:Hid (Bw w w9):=HBC.trans (b9.mono HBC.size);have O9:Hid (OwnI w9 W4.heap.size (.slice o3 S.os.length c3) S.os):=o9;have z9:W4.heap.size<=w9.heap.size:=zP zC b9.size;have HRS:Hid (S.rs=[x1,x2,x3,x4]):=hrs;clear o9 b9 hrs j0 j1 j2 j3 j4 j5 j6 i0 i1 i2 i3 i4 i5 i6 HXC HNC HMC HBC;go_wp2_with fail
  refine (qsa S.p x1 x2 x3 x4 o3 c3 S.os S.c W4.heap.size w9 z9 O9.out).mono ?_;rintro e w10 ⟨v,rfl,o10,b10⟩;rw [<- HRS.out] at o10;have B10:Hid (Bw w w10):=B9.trans (b10.mono B9.size);obtain ⟨-,-,-,-,-,-,-,r0,r1,r2,r3,rf⟩:=X9.bw b10;obtain ⟨ra2,rc2,oa2,oc2,rfl,-,-⟩:=o10.read;have O10:Hid (qaf w10 W4.heap.size (stV S.p ra2 S.rs.length rc2 oa2 S.os.length oc2 S.c) S.p S.rs S.os S.c):=o10;clear o10 b10;go_wp2;refine bodyPost_ret (v:=.tuple #[stV S.p ra2 S.rs.length rc2 oa2 S.os.length oc2 S.c,.bool true]) (by simp [results,results81,go_sem,r0,r1,r2,r3]) rfl ⟨_,rfl,?_,?_⟩
  ·exact qaf.put4 (B':=W4.heap.size) O10.out (by omega) (by omega)
  ·have:=B10.out
   go_grown
theorem qd3 (w:World):
  Calls prog 137 #[] w fun e w'=>∃ v,e=.returned v/\qaf w' w.heap.size v 0 [0,0,0,0] [] 0/\Bw w w':=by
 have hmk:∀ w:World,(Instr.makeSlice 30 (iV 4) (iV 4)).run prog w=.ok (sG w.heap.size 4 4) (w.alloc (.cells (madeCells #[iV 0] 4) 3)):=fun w=>qeg 4 (by omega) w;have HM:Hid (∀ w:World,OwnI (w.alloc (.cells (madeCells #[iV 0] 4) 3)) w.heap.size (sG w.heap.size 4 4) [0,0,0,0]):=fun w=>qob w 4 (by omega)
 go_enter func137,ntmps137
 go_wp2;have hB:w.heap.size<=w.heap.size+1:=by omega
 have hM:=HM.out (w.alloc (oQ1 0 (some ⟨w.heap.size+1,0,none⟩) 4 4 none 0 0 0))
 (try dsimp only [aW] at hM);rw [World.size_alloc] at hM
 refine bodyPost_ret (v:=stV 0 (some ⟨w.heap.size+1,0,none⟩) 4 4 none 0 0 0) (by simp [results,results137,go_sem]) rfl ⟨_,rfl,⟨_,_,rfl,hM.mono hB,World.ownsRow_nil _ _ _ _,fun k _=>by simp [Value.ownBlock]⟩,by go_grown⟩
theorem Tl.widen {w:World} {B C C' N:Nat} {p c:Int} {ra:Option Addr} {rn rc:Nat} {oa:Option Addr} {on oc:Nat} {rs os:List Int} (h:Tl w B C N p c ra rn rc oa on oc rs os) (h1:C<=C') (h2:C'<=w.heap.size):Tl w B C' N p c ra rn rc oa on oc rs os:=
 ⟨h.lo,zL h.hi h1,h2,h.box,h.own,fun k hk=>zL (h.up k hk) h1,h.ne⟩
open Go.Deep
theorem qcb (eh:Nat->E3) (kd pr:Int) (n:Nat):(valL eh kd pr n).length=(plN eh kd pr n).length:=by simp [valL]
theorem qdl (eh:Nat->E3) (kd pr:Int) (n:Nat):(plI eh kd pr n).length=(plN eh kd pr n).length:=by simp [plI]
theorem qsq {xs ys:List Int} {i:Nat} (h:i<xs.length):zi (xs ++ ys) i=zi xs i:=by
 unfold zi;rw [List.getD_eq_getElem?_getD,List.getD_eq_getElem?_getD,List.getElem?_append_left h]
theorem qw6 (xs:List Int) (y:Int):zi (xs ++ [y]) xs.length=y:=by
 unfold zi;rw [List.getD_eq_getElem?_getD,List.getElem?_append_right (nA _)];simp
def nthV (eh:Nat->E3) (kd pr:Int) (len:Nat) (n:Int):Int:=if belB n ((plI eh kd pr len).length:Nat)=true then zi (plI eh kd pr len) n.toNat else -1
theorem qu2 (eh:Nat->E3) (kd pr:Int) (k:Nat) (hh:hitB eh kd pr k=true):∀ d,zi (plI eh kd pr (k+1+d)) (plI eh kd pr k).length=k/\(plI eh kd pr k).length<(plI eh kd pr (k+1+d)).length
 | 0=>by
  rw [Nat.add_zero,qjt hh];exact ⟨qw6 _ _,by simp⟩
 | d+1=>by
  obtain ⟨h1,h2⟩:=qu2 eh kd pr k hh d;rw [<- Nat.add_assoc]
  rcases zK (hitB eh kd pr (k+1+d)) with h | h
  ·rw [qjt h,qsq h2]
   exact ⟨h1,by simp;omega⟩
  ·rw [qhw h]
   exact ⟨h1,h2⟩
theorem qoe {eh:Nat->E3} {kd pr:Int} {k len:Nat} {n:Int} (hk:k<len) (hh:hitB eh kd pr k=true) (hn:n=(plI eh kd pr k).length):nthV eh kd pr len n=k:=by
 obtain ⟨d,rfl⟩:∃ d,len=k+1+d:=⟨len - k - 1,by omega⟩
 obtain ⟨h1,h2⟩:=qu2 eh kd pr k hh d;subst hn;unfold nthV;rw [nC (by simp [belB];omega),nF,h1]
theorem qm7 (eh:Nat->E3) (kd pr:Int):∀ n,∀ q ∈ plN eh kd pr n,q<n
 | 0,q,h=>by simp [plN] at h
 | n+1,q,h=>by
  unfold plN at h
  split at h
  ·simp at h
   rcases h with h | h
   ·have:=qm7 eh kd pr n q h
    omega
   ·omega
  ·have:=qm7 eh kd pr n q h
   omega
theorem qlf (eh:Nat->E3) (kd pr:Int) (len j:Nat) (hj:j<(plI eh kd pr len).length):∃ q:Nat,zi (plI eh kd pr len) j=(q:Int)/\q<len/\(plN eh kd pr len)[j]? = some q:=by
 have hj':j<(plN eh kd pr len).length:=by rw [qdl] at hj;exact hj
 refine ⟨(plN eh kd pr len)[j],?_,qm7 eh kd pr len _ (List.getElem_mem hj'),List.getElem?_eq_getElem hj'⟩;unfold zi plI;rw [List.getD_eq_getElem?_getD,List.getElem?_map,List.getElem?_eq_getElem hj'];rfl
theorem qou {ops:Array Oper} {rest:List Oper} {op:Oper} {act:Act} {Q:Exit->Act->World->Prop} (w:World) (hgd:op.guard=none) (s x:Operand)
  (ho:op.op=.call { callee:=.builtin .append,args:=#[s,x],argTypes:=#[30,30] })
  (B:Nat) (v:Value) (xs:List Int) (hs:act.eval s=v) (hv:OwnI w B v xs) (y:Int) (hx:act.eval x=.slice (some (aQ w.heap.size 0)) 1 1) (hn:xs.length<=1048576) (hB:B<=w.heap.size)
  (h:∀ v' w',OwnI w' B v' (xs ++ [y])->w.grownBy w' v.ownBlock->(∀ j,v'.ownBlock=some j->v.ownBlock=some j\/w.heap.size<=j)->wpList prog ops Q rest (act.put op.dst v') w'):
  wpList prog ops Q (op :: rest) act (w.alloc (.cells #[iV y] 3)):=by
 have hb:Bw w (w.alloc (.cells #[iV y] 3)):=(nE _ _).alloc (nA _) _;refine qa7 _ hgd s x ho B 1 v (some (aQ w.heap.size 0)) xs [y] hs hx (hv.bw hb) (.inr ⟨w.heap.size,0,rfl,by simp,fun i hi=>?_⟩) (by simp;omega) (by simp;omega) ?_
 ·have:i=0:=by simp at hi;omega
  subst this;exact zW _ _ _ 0 rfl
 ·intro v' w' o g a
  refine h v' w' o ⟨g.os,g.tape,g.output,zP hb.size g.size,fun k hk hne=>(g.block k (zL hk hb.size) hne).trans (hb.block k hk)⟩ fun j hj=>?_
  rcases a with a | a
  ·exact .inl (a.symm.trans hj)
  ·rw [hj] at a
   simp only [nG] at a;right;rw [a];simp
def Away (w w1 wr:World) (o:Value):Prop:=(∀ j,o.ownBlock=some j->j=w.heap.size\/w1.heap.size<=j)/\(∀ j,w.heap.size<j->j<w1.heap.size->wr.heap[j]? = w1.heap[j]?)/\w1.heap.size<=wr.heap.size
theorem Away.step {w w1 wr w4:World} {o v':Value} (h:Away w w1 wr o) (g:wr.grownBy w4 o.ownBlock) (a:∀ j,v'.ownBlock=some j->o.ownBlock=some j\/wr.heap.size<=j):Away w w1 w4 v':=by
 obtain ⟨h1,h2,h3⟩:=h;refine ⟨fun j hj=>?_,fun j p1 p2=>?_,zP h3 g.size⟩
 ·rcases a j hj with a | a
  ·exact h1 j a
  ·right;omega
 ·rw [g.block j (by omega) (fun e=>?_),h2 j p1 p2]
  rcases h1 j e.symm with e | e <;> omega
theorem Away.sl {w w1 wr:World} {o:Value} (h:Away w w1 wr o) {B cp:Nat} {a0:Option Addr} {xs:List Int} (hB:w.heap.size<B) (hO:OwnI w1 B (.slice a0 xs.length cp) xs):Sl wr a0 xs:=by
 by_cases hx:0<xs.length
 ·obtain ⟨g,cap,e,hg,hl⟩:=hO.block hx
  simp only [Value.slice.injEq] at e;obtain ⟨rfl,-,rfl⟩:=e;refine .inr ⟨g,0,rfl,zL hl h.2.2,fun i hi=>?_⟩;rw [nL,zH (h.2.1 g (by omega) hl)];exact hO.cell hi
 ·exact .inl (List.eq_nil_of_length_eq_zero (by omega))
def valT (eh:Nat->E3) (kd pr:Int) (len j:Nat):List Int:=((plN eh kd pr len).take j).map fun i=>(eh i).v
theorem qv4 (eh:Nat->E3) (kd pr:Int) (len j:Nat):(valT eh kd pr len j).length<=j:=by simp [valT];omega
theorem qun (eh:Nat->E3) (kd pr:Int) (len:Nat):valT eh kd pr len (plI eh kd pr len).length=valL eh kd pr len:=by
 unfold valT valL;rw [qdl,List.take_length]
theorem qsi {eh:Nat->E3} {kd pr:Int} {len j q:Nat} (h:(plN eh kd pr len)[j]? = some q):valT eh kd pr len (j+1)=valT eh kd pr len j ++ [(eh q).v]:=by
 unfold valT;rw [List.take_add_one,h,List.map_append];rfl
