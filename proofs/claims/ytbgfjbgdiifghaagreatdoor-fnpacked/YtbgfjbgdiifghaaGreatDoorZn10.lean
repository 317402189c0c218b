import Derived.Test.YtbgfjbgdiifghaaGreatDoorZn7
import Derived.Laws.EntriesVeiled
namespace Go.Proofs.YtbgfjbgdiifghaaGreatDoor
open Go.Proofs.Tryz
set_option maxRecDepth 100000
set_option maxHeartbeats 2000000
open Go.RowKit
theorem qvk (w:World):
  Calls prog 146 #[iV 1] w (rB w (.func (.func 153) #[] #[])):=by
 go_enter func146,ntmps146
 go_wp2_with fail
 refine bodyPost_ret (v:=.func (.func 153) #[] #[]) (by simp [results,results146,go_sem]) rfl ⟨rfl,?_⟩
 go_grown
theorem qvl (w:World):
  Calls prog 146 #[iV 2] w (rB w (.func (.func 154) #[] #[])):=by
 go_enter func146,ntmps146
 go_wp2_with fail
 refine bodyPost_ret (v:=.func (.func 154) #[] #[]) (by simp [results,results146,go_sem]) rfl ⟨rfl,?_⟩
 go_grown
theorem qvm (w:World):
  Calls prog 146 #[iV 3] w (rB w (.func (.func 155) #[] #[])):=by
 go_enter func146,ntmps146
 go_wp2_with fail
 refine bodyPost_ret (v:=.func (.func 155) #[] #[]) (by simp [results,results146,go_sem]) rfl ⟨rfl,?_⟩
 go_grown
theorem qvn (w:World):
  Calls prog 146 #[iV 4] w (rB w (.func (.func 156) #[] #[])):=by
 go_enter func146,ntmps146
 go_wp2_with fail
 refine bodyPost_ret (v:=.func (.func 156) #[] #[]) (by simp [results,results146,go_sem]) rfl ⟨rfl,?_⟩
 go_grown
theorem qpv (w:World):
  Calls prog 146 #[iV 5] w (rB w (.func (.func 157) #[] #[])):=by
 go_enter func146,ntmps146
 go_wp2_with fail
 refine bodyPost_ret (v:=.func (.func 157) #[] #[]) (by simp [results,results146,go_sem]) rfl ⟨rfl,?_⟩
 go_grown
theorem qvo (w:World):
  Calls prog 146 #[iV 6] w (rB w (.func (.func 158) #[] #[])):=by
 go_enter func146,ntmps146
 go_wp2_with fail
 refine bodyPost_ret (v:=.func (.func 158) #[] #[]) (by simp [results,results146,go_sem]) rfl ⟨rfl,?_⟩
 go_grown
theorem qvp (w:World):
  Calls prog 146 #[iV 7] w (rB w (.func (.func 159) #[] #[])):=by
 go_enter func146,ntmps146
 go_wp2_with fail
 refine bodyPost_ret (v:=.func (.func 159) #[] #[]) (by simp [results,results146,go_sem]) rfl ⟨rfl,?_⟩
 go_grown
theorem qvq (w:World):
  Calls prog 146 #[iV 8] w (rB w (.func (.func 160) #[] #[])):=by
 go_enter func146,ntmps146
 go_wp2_with fail
 refine bodyPost_ret (v:=.func (.func 160) #[] #[]) (by simp [results,results146,go_sem]) rfl ⟨rfl,?_⟩
 go_grown
theorem qvr (w:World):
  Calls prog 146 #[iV 9] w (rB w (.func (.func 161) #[] #[])):=by
 go_enter func146,ntmps146
 go_wp2_with fail
 refine bodyPost_ret (v:=.func (.func 161) #[] #[]) (by simp [results,results146,go_sem]) rfl ⟨rfl,?_⟩
 go_grown
theorem qmu (w:World):
  Calls prog 146 #[iV 10] w (rB w (.func (.func 162) #[] #[])):=by
 go_enter func146,ntmps146
 go_wp2_with fail
 refine bodyPost_ret (v:=.func (.func 162) #[] #[]) (by simp [results,results146,go_sem]) rfl ⟨rfl,?_⟩
 go_grown
theorem qtz (w:World):
  Calls prog 146 #[iV 11] w (rB w (.func (.func 163) #[] #[])):=by
 go_enter func146,ntmps146
 go_wp2_with fail
 refine bodyPost_ret (v:=.func (.func 163) #[] #[]) (by simp [results,results146,go_sem]) rfl ⟨rfl,?_⟩
 go_grown
theorem qao (w:World) (cs:Array Value) (t:TypeId) (j:Nat) {N:Nat} (h:N=w.heap.size):(w.alloc (.cells cs t)).cell? (aQ N j)=cs[j]?:=by
 subst h;simp
theorem qdt (w:World) (cs:Array Value) (t:TypeId) (j:Nat) {N:Nat} (h:N=w.heap.size):(w.alloc (.cells cs t)).frozen? (aQ N j)=false:=by
 subst h;simp
theorem qtu (a b c d:Int) (j:Nat) (v:Int) (hj:j<4):[(set4 a b c d j v).1,(set4 a b c d j v).2.1,(set4 a b c d j v).2.2.1,(set4 a b c d j v).2.2.2]=[a,b,c,d].set j v:=by
 match j,hj with
 | 0,_=>rfl
 | 1,_=>rfl
 | 2,_=>rfl
 | 3,_=>rfl
theorem qvv (p a b c d:Int) (oa:Option Addr) (on oc:Nat) (code:Int) (jr ja jb:Nat) (n o k q v:Int) (w:World) (h0:0<=p) (h1:p<=1000000000) (hj:jr<4):
  Calls prog 153 #[dV p a b c d oa on oc code,insV o jr ja jb n,evV k q v] w (rB w (dV (p+1) (set4 a b c d jr (n)).1 (set4 a b c d jr (n)).2.1 (set4 a b c d jr (n)).2.2.1 (set4 a b c d jr (n)).2.2.2 oa on oc code)):=by
 go_enter func153,ntmps153
 go_wp2_with fail
 refine (qfk _ _ _ _ _ _ _ _ _ _ _ _ h0 h1 hj).mono ?_;rintro e w1 ⟨rfl,b1⟩;have B1:Hid (Bw w w1):=qah (by go_grown) b1 (by simp;omega);obtain ⟨hc1,hf1⟩:=qal b1;clear b1;go_wp2;refine bodyPost_ret (v:=dV (p+1) (set4 a b c d jr (n)).1 (set4 a b c d jr (n)).2.1 (set4 a b c d jr (n)).2.2.1 (set4 a b c d jr (n)).2.2.2 oa on oc code) (by simp [results,results153,go_sem,hc1]) rfl ⟨rfl,?_⟩;have:=B1.out
 go_grown
theorem qt1 (p a b c d:Int) (oa:Option Addr) (on oc:Nat) (code:Int) (jr ja jb:Nat) (n o k q v:Int) (w:World) (h0:0<=p) (h1:p<=1000000000) (hj:jr<4):
  Calls prog 159 #[dV p a b c d oa on oc code,insV o jr ja jb n,evV k q v] w (rB w (dV (p+1) (set4 a b c d jr (v)).1 (set4 a b c d jr (v)).2.1 (set4 a b c d jr (v)).2.2.1 (set4 a b c d jr (v)).2.2.2 oa on oc code)):=by
 go_enter func159,ntmps159
 go_wp2_with fail
 refine (qfk _ _ _ _ _ _ _ _ _ _ _ _ h0 h1 hj).mono ?_;rintro e w1 ⟨rfl,b1⟩;have B1:Hid (Bw w w1):=qah (by go_grown) b1 (by simp;omega);obtain ⟨hc1,hf1⟩:=qal b1;clear b1;go_wp2;refine bodyPost_ret (v:=dV (p+1) (set4 a b c d jr (v)).1 (set4 a b c d jr (v)).2.1 (set4 a b c d jr (v)).2.2.1 (set4 a b c d jr (v)).2.2.2 oa on oc code) (by simp [results,results159,go_sem,hc1]) rfl ⟨rfl,?_⟩;have:=B1.out
 go_grown
theorem qt0 (p a b c d:Int) (oa:Option Addr) (on oc:Nat) (code:Int) (jr ja jb:Nat) (n o k q v:Int) (w:World) (h0:0<=p) (h1:p<=1000000000):
  Calls prog 158 #[dV p a b c d oa on oc code,insV o jr ja jb n,evV k q v] w (rB w (dV (p+1) a b c d oa on oc code)):=by
 go_enter func158,ntmps158
 go_wp2_with fail
 refine (qcd _ _ _ _ _ _ _ _ _ _ h0 h1).mono ?_;rintro e w1 ⟨rfl,b1⟩;have B1:Hid (Bw w w1):=qah (by go_grown) b1 (by simp;omega);obtain ⟨hc1,hf1⟩:=qal b1;clear b1;go_wp2;refine bodyPost_ret (v:=dV (p+1) a b c d oa on oc code) (by simp [results,results158,go_sem,hc1]) rfl ⟨rfl,?_⟩;have:=B1.out
 go_grown
theorem qmv (p a b c d:Int) (oa:Option Addr) (on oc:Nat) (code:Int) (jr ja jb:Nat) (n o k q v:Int) (w:World) (_h0:0<=p) (_h1:p<=1000000000):
  Calls prog 161 #[dV p a b c d oa on oc code,insV o jr ja jb n,evV k q v] w (rB w (dV n a b c d oa on oc code)):=by
 go_enter func161,ntmps161
 go_wp2;refine bodyPost_ret (v:=dV n a b c d oa on oc code) (by simp [results,results161,go_sem]) rfl ⟨rfl,?_⟩
 go_grown
theorem qvt (p a b c d:Int) (oa:Option Addr) (on oc:Nat) (code:Int) (jr ja jb:Nat) (n o k q v:Int) (w:World) (_h0:0<=p) (_h1:p<=1000000000):
  Calls prog 163 #[dV p a b c d oa on oc code,insV o jr ja jb n,evV k q v] w (rB w (dV p a b c d oa on oc 1)):=by
 go_enter func163,ntmps163
 go_wp2;refine bodyPost_ret (v:=dV p a b c d oa on oc 1) (by simp [results,results163,go_sem]) rfl ⟨rfl,?_⟩
 go_grown
theorem qru {w W:World} {v0:Int} {v1:Int} {v2:Int} {v3:Int} {v4:Int} {v5:Option Addr} {v6:Nat} {v7:Nat} {v8:Int} {v9:Int} {v10:Int} {v11:Int} {v12:Int} {v13:Int} {v14:Int} {v15:Int} {v16:Int} (hW:((((w.alloc (oQ3 v0 v1 v2 v3 v4 v5 v6 v7 v8)).alloc (oQ1 v9 v10 v11 v12 v13)).alloc (oQ2 v14 v15 v16)).alloc (zQ1))=W):W.cell? ⟨w.heap.size,0,none⟩=some (iV v0)/\W.cell? ⟨w.heap.size,1,none⟩=some (iV v1)/\W.cell? ⟨w.heap.size,2,none⟩=some (iV v2)/\W.cell? ⟨w.heap.size,3,none⟩=some (iV v3)/\W.cell? ⟨w.heap.size,4,none⟩=some (iV v4)/\W.cell? ⟨w.heap.size,5,none⟩=some (.slice v5 v6 v7)/\W.cell? ⟨w.heap.size,6,none⟩=some (iV v8)/\W.cell? ⟨w.heap.size+1,0,none⟩=some (iV v9)/\W.cell? ⟨w.heap.size+1,1,none⟩=some (iV v10)/\W.cell? ⟨w.heap.size+1,2,none⟩=some (iV v11)/\W.cell? ⟨w.heap.size+1,3,none⟩=some (iV v12)/\W.cell? ⟨w.heap.size+1,4,none⟩=some (iV v13)/\W.cell? ⟨w.heap.size+1+1,0,none⟩=some (iV v14)/\W.cell? ⟨w.heap.size+1+1,1,none⟩=some (iV v15)/\W.cell? ⟨w.heap.size+1+1,2,none⟩=some (iV v16)/\W.cell? ⟨w.heap.size+1+1+1,0,none⟩=some (iV 0)/\W.cell? ⟨w.heap.size+1+1+1,1,none⟩=some (iV 0)/\W.cell? ⟨w.heap.size+1+1+1,2,none⟩=some (iV 0)/\W.cell? ⟨w.heap.size+1+1+1,3,none⟩=some (iV 0)/\W.cell? ⟨w.heap.size+1+1+1,4,none⟩=some (iV 0)/\W.cell? ⟨w.heap.size+1+1+1,5,none⟩=some nS/\W.cell? ⟨w.heap.size+1+1+1,6,none⟩=some (iV 0)/\(∀ j,W.frozen? ⟨w.heap.size+1+1+1,j,none⟩=false)/\w.heap.size+1+1+1<W.heap.size/\Bw w W:=by
 subst hW;exact ⟨(zS _ _ (by simp<;>omega)).trans ((zS _ _ (by simp<;>omega)).trans ((zS _ _ (by simp)).trans (by simp))),(zS _ _ (by simp<;>omega)).trans ((zS _ _ (by simp<;>omega)).trans ((zS _ _ (by simp)).trans (by simp))),(zS _ _ (by simp<;>omega)).trans ((zS _ _ (by simp<;>omega)).trans ((zS _ _ (by simp)).trans (by simp))),(zS _ _ (by simp<;>omega)).trans ((zS _ _ (by simp<;>omega)).trans ((zS _ _ (by simp)).trans (by simp))),(zS _ _ (by simp<;>omega)).trans ((zS _ _ (by simp<;>omega)).trans ((zS _ _ (by simp)).trans (by simp))),(zS _ _ (by simp<;>omega)).trans ((zS _ _ (by simp<;>omega)).trans ((zS _ _ (by simp)).trans (by simp))),(zS _ _ (by simp<;>omega)).trans ((zS _ _ (by simp<;>omega)).trans ((zS _ _ (by simp)).trans (by simp))),(zS _ _ (by simp<;>omega)).trans ((zS _ _ (by simp)).trans (by simp)),(zS _ _ (by simp<;>omega)).trans ((zS _ _ (by simp)).trans (by simp)),(zS _ _ (by simp<;>omega)).trans ((zS _ _ (by simp)).trans (by simp)),(zS _ _ (by simp<;>omega)).trans ((zS _ _ (by simp)).trans (by simp)),(zS _ _ (by simp<;>omega)).trans ((zS _ _ (by simp)).trans (by simp)),(zS _ _ (by simp)).trans (qao _ _ _ 0 (by simp)),(zS _ _ (by simp)).trans (qao _ _ _ 1 (by simp)),(zS _ _ (by simp)).trans (qao _ _ _ 2 (by simp)),qao _ _ _ 0 (by simp),qao _ _ _ 1 (by simp),qao _ _ _ 2 (by simp),qao _ _ _ 3 (by simp),qao _ _ _ 4 (by simp),qao _ _ _ 5 (by simp),qao _ _ _ 6 (by simp),fun j=>qdt _ _ _ j (by simp),by simp,by go_grown⟩
theorem qvs (p a b c d:Int) (oa:Option Addr) (on oc:Nat) (code:Int) (jr ja jb:Nat) (n o k q v:Int) (w:World) (h0:0<=p) (h1:p<=1000000000) (hj:jr<4) (ha:ja<4) (hb:jb<4) (na1:-1000000000<=zi [a,b,c,d] ja) (na2:zi [a,b,c,d] ja<=1000000000) (nb1:-1000000000<=zi [a,b,c,d] jb) (nb2:zi [a,b,c,d] jb<=1000000000) (mb1:-1000000000000000000<=zi [a,b,c,d] ja*zi [a,b,c,d] jb) (mb2:zi [a,b,c,d] ja*zi [a,b,c,d] jb<=1000000000000000000):
  Calls prog 154 #[dV p a b c d oa on oc code,insV o jr ja jb n,evV k q v] w (rB w (dV (p+1) (set4 a b c d jr (zi [a,b,c,d] ja+zi [a,b,c,d] jb)).1 (set4 a b c d jr (zi [a,b,c,d] ja+zi [a,b,c,d] jb)).2.1 (set4 a b c d jr (zi [a,b,c,d] ja+zi [a,b,c,d] jb)).2.2.1 (set4 a b c d jr (zi [a,b,c,d] ja+zi [a,b,c,d] jb)).2.2.2 oa on oc code)):=by
 go_enter func154,ntmps154
 go_wp2_with fail
 generalize hW:((((w.alloc (oQ3 p a b c d oa on oc code)).alloc (oQ1 o jr ja jb n)).alloc (oQ2 k q v)).alloc (zQ1))=W at *;obtain ⟨k0,k1,k2,k3,k4,k5,k6,x0,x1,x2,x3,x4,y0,y1,y2,r0,r1,r2,r3,r4,r5,r6,rf,l3,BW'⟩:=qru hW;have BW:Hid (Bw w W):=BW';clear BW';clear hW;have l0:w.heap.size<W.heap.size:=by omega
 have l1:w.heap.size+1<W.heap.size:=by omega
 have l2:w.heap.size+1+1<W.heap.size:=by omega
 have ja':(ja:Int)<4:=by omega
 have ca:W.cell? ⟨w.heap.size,1+ja,none⟩=some (iV (zi [a,b,c,d] ja)):=by
  match ja,ha with
  | 0,_=>exact k1
  | 1,_=>exact k2
  | 2,_=>exact k3
  | 3,_=>exact k4
 have cb:W.cell? ⟨w.heap.size,1+jb,none⟩=some (iV (zi [a,b,c,d] jb)):=by
  match jb,hb with
  | 0,_=>exact k1
  | 1,_=>exact k2
  | 2,_=>exact k3
  | 3,_=>exact k4
 have jb':(jb:Int)<4:=by omega
 have hw:IntKind.i64.wrap (zi [a,b,c,d] ja+zi [a,b,c,d] jb)=zi [a,b,c,d] ja+zi [a,b,c,d] jb:=by rw [IntKind.wrap_i64];omega
 generalize hN3:w.heap.size+1+1+1=N3 at *;generalize hN2:w.heap.size+1+1=N2 at *;generalize hN1:w.heap.size+1=N1 at *;have ne1:w.heap.size≠N3:=by omega
 have ne2:N1≠N3:=by omega
 have ne3:N3≠w.heap.size:=by omega
 have ne4:N3≠N1:=by omega
 have HN:Hid (w.heap.size<N3):=by show w.heap.size<N3;omega
 clear hN1 hN2 hN3
 go_region_held3 (fun w'=>w'.cell? (aQ w.heap.size 0)=some (iV p)/\w'.cell? (aQ w.heap.size 1)=some (iV a)/\w'.cell? (aQ w.heap.size 2)=some (iV b)/\w'.cell? (aQ w.heap.size 3)=some (iV c)/\w'.cell? (aQ w.heap.size 4)=some (iV d)/\w'.cell? (aQ w.heap.size 5)=some (.slice oa on oc)/\w'.cell? (aQ w.heap.size 6)=some (iV code)/\w'.cell? (aQ N1 1)=some (iV jr)/\w'.cell? (aQ N1 2)=some (iV ja)/\w'.cell? (aQ N1 3)=some (iV jb)/\w'.cell? ⟨w.heap.size,1+ja,none⟩=some (iV (zi [a,b,c,d] ja))/\w'.cell? ⟨w.heap.size,1+jb,none⟩=some (iV (zi [a,b,c,d] jb))) (go_keep)
  (first|(go_at_call 167;refine (qfk _ _ _ _ _ _ _ _ _ _ _ _ h0 h1 hj).mono ?_;rintro e w1 ⟨rfl,b1'⟩;have b1:Bw W w1:=(nE W.heap.size W).drew.trans b1';obtain ⟨hc1,hf1⟩:=qal b1;have B1:Hid (Bw w w1):=BW.trans (b1.mono BW.size);clear b1 b1'))
 go_wp2;refine bodyPost_ret (v:=dV (p+1) (set4 a b c d jr (zi [a,b,c,d] ja+zi [a,b,c,d] jb)).1 (set4 a b c d jr (zi [a,b,c,d] ja+zi [a,b,c,d] jb)).2.1 (set4 a b c d jr (zi [a,b,c,d] ja+zi [a,b,c,d] jb)).2.2.1 (set4 a b c d jr (zi [a,b,c,d] ja+zi [a,b,c,d] jb)).2.2.2 oa on oc code) (by simp [results,results154,go_sem,hc1,l3,r0,r1,r2,r3,r4,r5,r6]) rfl ⟨rfl,?_⟩;have:=B1.out;have:=HN.out
 go_grown
theorem qvw (p a b c d:Int) (oa:Option Addr) (on oc:Nat) (code:Int) (jr ja jb:Nat) (n o k q v:Int) (w:World) (h0:0<=p) (h1:p<=1000000000) (hj:jr<4) (ha:ja<4) (hb:jb<4) (na1:-1000000000<=zi [a,b,c,d] ja) (na2:zi [a,b,c,d] ja<=1000000000) (nb1:-1000000000<=zi [a,b,c,d] jb) (nb2:zi [a,b,c,d] jb<=1000000000) (mb1:-1000000000000000000<=zi [a,b,c,d] ja*zi [a,b,c,d] jb) (mb2:zi [a,b,c,d] ja*zi [a,b,c,d] jb<=1000000000000000000):
  Calls prog 155 #[dV p a b c d oa on oc code,insV o jr ja jb n,evV k q v] w (rB w (dV (p+1) (set4 a b c d jr (zi [a,b,c,d] ja - zi [a,b,c,d] jb)).1 (set4 a b c d jr (zi [a,b,c,d] ja - zi [a,b,c,d] jb)).2.1 (set4 a b c d jr (zi [a,b,c,d] ja - zi [a,b,c,d] jb)).2.2.1 (set4 a b c d jr (zi [a,b,c,d] ja - zi [a,b,c,d] jb)).2.2.2 oa on oc code)):=by
 go_enter func155,ntmps155
 go_wp2_with fail
 generalize hW:((((w.alloc (oQ3 p a b c d oa on oc code)).alloc (oQ1 o jr ja jb n)).alloc (oQ2 k q v)).alloc (zQ1))=W at *;obtain ⟨k0,k1,k2,k3,k4,k5,k6,x0,x1,x2,x3,x4,y0,y1,y2,r0,r1,r2,r3,r4,r5,r6,rf,l3,BW'⟩:=qru hW;have BW:Hid (Bw w W):=BW';clear BW';clear hW;have l0:w.heap.size<W.heap.size:=by omega
 have l1:w.heap.size+1<W.heap.size:=by omega
 have l2:w.heap.size+1+1<W.heap.size:=by omega
 have ja':(ja:Int)<4:=by omega
 have ca:W.cell? ⟨w.heap.size,1+ja,none⟩=some (iV (zi [a,b,c,d] ja)):=by
  match ja,ha with
  | 0,_=>exact k1
  | 1,_=>exact k2
  | 2,_=>exact k3
  | 3,_=>exact k4
 have cb:W.cell? ⟨w.heap.size,1+jb,none⟩=some (iV (zi [a,b,c,d] jb)):=by
  match jb,hb with
  | 0,_=>exact k1
  | 1,_=>exact k2
  | 2,_=>exact k3
  | 3,_=>exact k4
 have jb':(jb:Int)<4:=by omega
 have hw:IntKind.i64.wrap (zi [a,b,c,d] ja - zi [a,b,c,d] jb)=zi [a,b,c,d] ja - zi [a,b,c,d] jb:=by rw [IntKind.wrap_i64];omega
 generalize hN3:w.heap.size+1+1+1=N3 at *;generalize hN2:w.heap.size+1+1=N2 at *;generalize hN1:w.heap.size+1=N1 at *;have ne1:w.heap.size≠N3:=by omega
 have ne2:N1≠N3:=by omega
 have ne3:N3≠w.heap.size:=by omega
 have ne4:N3≠N1:=by omega
 have HN:Hid (w.heap.size<N3):=by show w.heap.size<N3;omega
 clear hN1 hN2 hN3
 go_region_held3 (fun w'=>w'.cell? (aQ w.heap.size 0)=some (iV p)/\w'.cell? (aQ w.heap.size 1)=some (iV a)/\w'.cell? (aQ w.heap.size 2)=some (iV b)/\w'.cell? (aQ w.heap.size 3)=some (iV c)/\w'.cell? (aQ w.heap.size 4)=some (iV d)/\w'.cell? (aQ w.heap.size 5)=some (.slice oa on oc)/\w'.cell? (aQ w.heap.size 6)=some (iV code)/\w'.cell? (aQ N1 1)=some (iV jr)/\w'.cell? (aQ N1 2)=some (iV ja)/\w'.cell? (aQ N1 3)=some (iV jb)/\w'.cell? ⟨w.heap.size,1+ja,none⟩=some (iV (zi [a,b,c,d] ja))/\w'.cell? ⟨w.heap.size,1+jb,none⟩=some (iV (zi [a,b,c,d] jb))) (go_keep)
  (first|(go_at_call 167;refine (qfk _ _ _ _ _ _ _ _ _ _ _ _ h0 h1 hj).mono ?_;rintro e w1 ⟨rfl,b1'⟩;have b1:Bw W w1:=(nE W.heap.size W).drew.trans b1';obtain ⟨hc1,hf1⟩:=qal b1;have B1:Hid (Bw w w1):=BW.trans (b1.mono BW.size);clear b1 b1'))
 go_wp2;refine bodyPost_ret (v:=dV (p+1) (set4 a b c d jr (zi [a,b,c,d] ja - zi [a,b,c,d] jb)).1 (set4 a b c d jr (zi [a,b,c,d] ja - zi [a,b,c,d] jb)).2.1 (set4 a b c d jr (zi [a,b,c,d] ja - zi [a,b,c,d] jb)).2.2.1 (set4 a b c d jr (zi [a,b,c,d] ja - zi [a,b,c,d] jb)).2.2.2 oa on oc code) (by simp [results,results155,go_sem,hc1,l3,r0,r1,r2,r3,r4,r5,r6]) rfl ⟨rfl,?_⟩;have:=B1.out;have:=HN.out
 go_grown
theorem qvu (p a b c d:Int) (oa:Option Addr) (on oc:Nat) (code:Int) (jr ja jb:Nat) (n o k q v:Int) (w:World) (h0:0<=p) (h1:p<=1000000000) (hj:jr<4) (ha:ja<4) (hb:jb<4) (na1:-1000000000<=zi [a,b,c,d] ja) (na2:zi [a,b,c,d] ja<=1000000000) (nb1:-1000000000<=zi [a,b,c,d] jb) (nb2:zi [a,b,c,d] jb<=1000000000) (mb1:-1000000000000000000<=zi [a,b,c,d] ja*zi [a,b,c,d] jb) (mb2:zi [a,b,c,d] ja*zi [a,b,c,d] jb<=1000000000000000000):
  Calls prog 156 #[dV p a b c d oa on oc code,insV o jr ja jb n,evV k q v] w (rB w (dV (p+1) (set4 a b c d jr (zi [a,b,c,d] ja*zi [a,b,c,d] jb)).1 (set4 a b c d jr (zi [a,b,c,d] ja*zi [a,b,c,d] jb)).2.1 (set4 a b c d jr (zi [a,b,c,d] ja*zi [a,b,c,d] jb)).2.2.1 (set4 a b c d jr (zi [a,b,c,d] ja*zi [a,b,c,d] jb)).2.2.2 oa on oc code)):=by
 go_enter func156,ntmps156
 go_wp2_with fail
 generalize hW:((((w.alloc (oQ3 p a b c d oa on oc code)).alloc (oQ1 o jr ja jb n)).alloc (oQ2 k q v)).alloc (zQ1))=W at *;obtain ⟨k0,k1,k2,k3,k4,k5,k6,x0,x1,x2,x3,x4,y0,y1,y2,r0,r1,r2,r3,r4,r5,r6,rf,l3,BW'⟩:=qru hW;have BW:Hid (Bw w W):=BW';clear BW';clear hW;have l0:w.heap.size<W.heap.size:=by omega
 have l1:w.heap.size+1<W.heap.size:=by omega
 have l2:w.heap.size+1+1<W.heap.size:=by omega
 have ja':(ja:Int)<4:=by omega
 have ca:W.cell? ⟨w.heap.size,1+ja,none⟩=some (iV (zi [a,b,c,d] ja)):=by
  match ja,ha with
  | 0,_=>exact k1
  | 1,_=>exact k2
  | 2,_=>exact k3
  | 3,_=>exact k4
 have cb:W.cell? ⟨w.heap.size,1+jb,none⟩=some (iV (zi [a,b,c,d] jb)):=by
  match jb,hb with
  | 0,_=>exact k1
  | 1,_=>exact k2
  | 2,_=>exact k3
  | 3,_=>exact k4
 have jb':(jb:Int)<4:=by omega
 have hw:IntKind.i64.wrap (zi [a,b,c,d] ja*zi [a,b,c,d] jb)=zi [a,b,c,d] ja*zi [a,b,c,d] jb:=by rw [IntKind.wrap_i64];omega
 generalize hN3:w.heap.size+1+1+1=N3 at *;generalize hN2:w.heap.size+1+1=N2 at *;generalize hN1:w.heap.size+1=N1 at *;have ne1:w.heap.size≠N3:=by omega
 have ne2:N1≠N3:=by omega
 have ne3:N3≠w.heap.size:=by omega
 have ne4:N3≠N1:=by omega
 have HN:Hid (w.heap.size<N3):=by show w.heap.size<N3;omega
 clear hN1 hN2 hN3
 go_region_held3 (fun w'=>w'.cell? (aQ w.heap.size 0)=some (iV p)/\w'.cell? (aQ w.heap.size 1)=some (iV a)/\w'.cell? (aQ w.heap.size 2)=some (iV b)/\w'.cell? (aQ w.heap.size 3)=some (iV c)/\w'.cell? (aQ w.heap.size 4)=some (iV d)/\w'.cell? (aQ w.heap.size 5)=some (.slice oa on oc)/\w'.cell? (aQ w.heap.size 6)=some (iV code)/\w'.cell? (aQ N1 1)=some (iV jr)/\w'.cell? (aQ N1 2)=some (iV ja)/\w'.cell? (aQ N1 3)=some (iV jb)/\w'.cell? ⟨w.heap.size,1+ja,none⟩=some (iV (zi [a,b,c,d] ja))/\w'.cell? ⟨w.heap.size,1+jb,none⟩=some (iV (zi [a,b,c,d] jb))) (go_keep)
  (first|(go_at_call 167;refine (qfk _ _ _ _ _ _ _ _ _ _ _ _ h0 h1 hj).mono ?_;rintro e w1 ⟨rfl,b1'⟩;have b1:Bw W w1:=(nE W.heap.size W).drew.trans b1';obtain ⟨hc1,hf1⟩:=qal b1;have B1:Hid (Bw w w1):=BW.trans (b1.mono BW.size);clear b1 b1'))
 go_wp2;refine bodyPost_ret (v:=dV (p+1) (set4 a b c d jr (zi [a,b,c,d] ja*zi [a,b,c,d] jb)).1 (set4 a b c d jr (zi [a,b,c,d] ja*zi [a,b,c,d] jb)).2.1 (set4 a b c d jr (zi [a,b,c,d] ja*zi [a,b,c,d] jb)).2.2.1 (set4 a b c d jr (zi [a,b,c,d] ja*zi [a,b,c,d] jb)).2.2.2 oa on oc code) (by simp [results,results156,go_sem,hc1,l3,r0,r1,r2,r3,r4,r5,r6]) rfl ⟨rfl,?_⟩;have:=B1.out;have:=HN.out
 go_grown
theorem qie (n cap:Nat) (h:n<=2000000) (hc:cap<n):Builtin.nextslicecap n cap*8<=281474976710656:=growslice_fits hc (by omega)
theorem qin (w:World) (ty:TypeId) (B c:Nat) (v:Value) (ad:Addr) (xs:List Int) (y:Int) (h:OwnI w B v xs) (hy:w.cell? ad=some (iV y)) (hn:xs.length<=1048576) (hB:B<=w.heap.size):
  ∃ v' w',(Builtin.append_ #[41,41] ty #[v,.slice (some ad) 1 c]).run prog w=.ok v' w'/\OwnI w' B v' (xs ++ [y])/\OwnI w' B v xs/\w.grownBy w' v.ownBlock/\(v'.ownBlock=v.ownBlock\/v'.ownBlock=some w.heap.size):=by
 obtain ⟨i,hi,hz,hs,hb⟩:=qj0
 have hnews:∀ j u,([y].map (Value.int .i64))[j]? = some u->w.cell? (ad.add j)=some u:=by
  intro j u hj
  match j,hj with
  | 0,hj=>
   simp at hj;subst hj;simpa [Addr.add] using hy
 obtain ⟨v',w',h1,h2,h3,_,h5⟩:=run_append_own_at (P:=prog) w B 41 ty 3 i (iV 0) 1 8 Tryz.underlying41 hi hz hs hb rfl (by decide) v xs.length (xs.map (Value.int .i64)) h ad 1 c ([y].map (Value.int .i64)) (by simp) hnews (qhu [y]) (by unfold maxLen;omega) (by omega) hB;refine ⟨v',w',h1,?_,?_,h3,h5⟩
 ·unfold OwnI
  rw [List.length_append,List.map_append];exact h2
 ·rcases h.2 with ⟨rfl,h0⟩ | ⟨g,cap,cur,rfl,hbg,hg,hnc,hcm,hcs,htake⟩
  ·exact ⟨h.1,.inl ⟨rfl,h0⟩⟩
  ·by_cases hroom:xs.length+1<=cap
   ·have hr:=run_append_room (P:=prog) w 41 ty 3 i Tryz.underlying41 hi g xs.length cap cur hg ad 1 c ([y].map (Value.int .i64)) (by rw [hs];rfl) hnews (qhu [y]) hroom (by rw [hs];simp;omega)
    rw [hr] at h1;simp only [Result.ok.injEq] at h1;obtain ⟨-,rfl⟩:=h1;refine ⟨h.1,.inr ⟨g,cap,_,rfl,hbg,setRow_heap w g cur _ 3 _ hg,hnc,hcm,?_,?_⟩⟩
    ·rw [hs]
     simp only [List.size_toArray,List.length_append,List.length_take,List.length_drop,Array.length_toList,List.length_map,List.length_cons,List.length_nil];omega
    ·rw [hs]
     simp only [Nat.mul_one] at htake ⊢;rw [htake];simp only [List.append_assoc];rw [List.take_append_of_le_length (by simp),List.take_of_length_le (by simp)]
   ·have holds:∀ j u,(xs.map (Value.int .i64))[j]? = some u->w.cell? ((⟨g,0,none⟩:Addr).add j)=some u:=World.ownsRow.cells h (g:=g) rfl
    have hr:=run_append_grow (P:=prog) w 41 ty 3 i (iV 0) Tryz.underlying41 hi hz ⟨g,0,none⟩ xs.length cap (xs.map (Value.int .i64)) (by rw [hs];simp) holds ad 1 c ([y].map (Value.int .i64)) (by rw [hs];rfl) hnews (by omega) (by omega) (by rw [hb];exact qie _ _ (by omega) (by omega));rw [hr] at h1;simp only [Result.ok.injEq] at h1;obtain ⟨-,rfl⟩:=h1;exact h.bw ((nE w.heap.size w).drew.alloc (by simp) _)
theorem qgb {ops:Array Oper} {rest:List Oper} {op:Oper} {act:Act} {Q:Exit->Act->World->Prop} (w:World) (hgd:op.guard=none) (s x:Operand)
  (ho:op.op=.call { callee:=.builtin .append,args:=#[s,x],argTypes:=#[41,41] })
  (B c:Nat) (v:Value) (ad:Addr) (xs:List Int) (y:Int) (hs:act.eval s=v) (hx:act.eval x=.slice (some ad) 1 c) (hv:OwnI w B v xs) (hy:w.cell? ad=some (iV y)) (hn:xs.length<=1048576) (hB:B<=w.heap.size)
  (h:∀ v' w',OwnI w' B v' (xs ++ [y])->OwnI w' B v xs->w.grownBy w' v.ownBlock->(v'.ownBlock=v.ownBlock\/v'.ownBlock=some w.heap.size)->wpList prog ops Q rest (act.put op.dst v') w'):
  wpList prog ops Q (op :: rest) act w:=by
 obtain ⟨v',w',h1,h2,h3,h4,h5⟩:=qin w op.type B c v ad xs y hv hy hn hB;refine wpList_plain hgd fun K hK=>?_;unfold Oper.wp execOp;simp only [ho,resolve,invoke,builtin,Sem.run_bind,Sem.run_pure,Result.andThen_ok,List.map_toArray,List.map_cons,List.map_nil,hs,hx,h1];exact hK _ _ (h v' w' h2 h3 h4 h5)
theorem qky (p a b c d:Int) (oa:Option Addr) (on oc:Nat) (code:Int) (jr ja jb:Nat) (n o k q v:Int) (w:World) (_h0:0<=p) (_h1:p<=1000000000) (ha:ja<4) (hz:(zi [a,b,c,d] ja == 0)=true):
  Calls prog 162 #[dV p a b c d oa on oc code,insV o jr ja jb n,evV k q v] w (rB w (dV n a b c d oa on oc code)):=by
 have ca:((((w.alloc (oQ3 p a b c d oa on oc code)).alloc (oQ1 o jr ja jb n)).alloc (oQ2 k q v)).alloc (zQ1)).cell? ⟨w.heap.size,1+ja,none⟩=some (iV (zi [a,b,c,d] ja)):=by
  refine (zS _ _ (by simp<;>omega)).trans ((zS _ _ (by simp<;>omega)).trans ((zS _ _ (by simp)).trans ?_))
  match ja,ha with
  | 0,_=>simp [zi]
  | 1,_=>simp [zi]
  | 2,_=>simp [zi]
  | 3,_=>simp [zi]
 have ja':(ja:Int)<4:=by omega
 go_enter func162,ntmps162
 go_wp2_with fail
 refine (qmv _ _ _ _ _ _ _ _ _ _ _ _ _ _ _ _ _ _ _h0 _h1).mono ?_;rintro e w1 ⟨rfl,b1⟩;have B1:Hid (Bw w w1):=qah (by go_grown) b1 (by simp;omega);obtain ⟨hc1,hf1⟩:=qal b1;clear b1;go_wp2;refine bodyPost_ret (v:=dV n a b c d oa on oc code) (by simp [results,results162,go_sem,hc1]) rfl ⟨rfl,?_⟩;have:=B1.out
 go_grown
theorem qmx (p a b c d:Int) (oa:Option Addr) (on oc:Nat) (code:Int) (jr ja jb:Nat) (n o k q v:Int) (w:World) (h0:0<=p) (h1:p<=1000000000) (ha:ja<4) (hz:(zi [a,b,c,d] ja == 0)=false):
  Calls prog 162 #[dV p a b c d oa on oc code,insV o jr ja jb n,evV k q v] w (rB w (dV (p+1) a b c d oa on oc code)):=by
 have ca:((((w.alloc (oQ3 p a b c d oa on oc code)).alloc (oQ1 o jr ja jb n)).alloc (oQ2 k q v)).alloc (zQ1)).cell? ⟨w.heap.size,1+ja,none⟩=some (iV (zi [a,b,c,d] ja)):=by
  refine (zS _ _ (by simp<;>omega)).trans ((zS _ _ (by simp<;>omega)).trans ((zS _ _ (by simp)).trans ?_))
  match ja,ha with
  | 0,_=>simp [zi]
  | 1,_=>simp [zi]
  | 2,_=>simp [zi]
  | 3,_=>simp [zi]
 have ja':(ja:Int)<4:=by omega
 go_enter func162,ntmps162
 go_wp2_with fail
 refine (qcd _ _ _ _ _ _ _ _ _ _ h0 h1).mono ?_;rintro e w1 ⟨rfl,b1⟩;have B1:Hid (Bw w w1):=qah (by go_grown) b1 (by simp;omega);obtain ⟨hc1,hf1⟩:=qal b1;clear b1;go_wp2;refine bodyPost_ret (v:=dV (p+1) a b c d oa on oc code) (by simp [results,results162,go_sem,hc1]) rfl ⟨rfl,?_⟩;have:=B1.out
 go_grown
theorem qv7 {w W:World} {v0:Int} {v1:Int} {v2:Int} {v3:Int} {v4:Int} {v5:Option Addr} {v6:Nat} {v7:Nat} {v8:Int} {v9:Int} {v10:Int} {v11:Int} {v12:Int} {v13:Int} {v14:Int} {v15:Int} {v16:Int} (hW:((((w.alloc (oQ3 v0 v1 v2 v3 v4 v5 v6 v7 v8)).alloc (oQ1 v9 v10 v11 v12 v13)).alloc (oQ2 v14 v15 v16)).alloc (zQ1))=W):W.cell? ⟨w.heap.size,0,none⟩=some (iV v0)/\W.cell? ⟨w.heap.size,1,none⟩=some (iV v1)/\W.cell? ⟨w.heap.size,2,none⟩=some (iV v2)/\W.cell? ⟨w.heap.size,3,none⟩=some (iV v3)/\W.cell? ⟨w.heap.size,4,none⟩=some (iV v4)/\W.cell? ⟨w.heap.size,5,none⟩=some (.slice v5 v6 v7)/\W.cell? ⟨w.heap.size,6,none⟩=some (iV v8)/\W.cell? ⟨w.heap.size+1,0,none⟩=some (iV v9)/\W.cell? ⟨w.heap.size+1,1,none⟩=some (iV v10)/\W.cell? ⟨w.heap.size+1,2,none⟩=some (iV v11)/\W.cell? ⟨w.heap.size+1,3,none⟩=some (iV v12)/\W.cell? ⟨w.heap.size+1,4,none⟩=some (iV v13)/\W.cell? ⟨w.heap.size+1+1,0,none⟩=some (iV v14)/\W.cell? ⟨w.heap.size+1+1,1,none⟩=some (iV v15)/\W.cell? ⟨w.heap.size+1+1,2,none⟩=some (iV v16)/\W.cell? ⟨w.heap.size+1+1+1,0,none⟩=some (iV 0)/\W.cell? ⟨w.heap.size+1+1+1,1,none⟩=some (iV 0)/\W.cell? ⟨w.heap.size+1+1+1,2,none⟩=some (iV 0)/\W.cell? ⟨w.heap.size+1+1+1,3,none⟩=some (iV 0)/\W.cell? ⟨w.heap.size+1+1+1,4,none⟩=some (iV 0)/\W.cell? ⟨w.heap.size+1+1+1,5,none⟩=some nS/\W.cell? ⟨w.heap.size+1+1+1,6,none⟩=some (iV 0)/\(∀ j,W.frozen? ⟨w.heap.size+1+1+1,j,none⟩=false)/\w.heap.size+1+1+1<W.heap.size/\Bw w W:=by
 subst hW;exact ⟨(zS _ _ (by simp<;>omega)).trans ((zS _ _ (by simp<;>omega)).trans ((zS _ _ (by simp)).trans (by simp))),(zS _ _ (by simp<;>omega)).trans ((zS _ _ (by simp<;>omega)).trans ((zS _ _ (by simp)).trans (by simp))),(zS _ _ (by simp<;>omega)).trans ((zS _ _ (by simp<;>omega)).trans ((zS _ _ (by simp)).trans (by simp))),(zS _ _ (by simp<;>omega)).trans ((zS _ _ (by simp<;>omega)).trans ((zS _ _ (by simp)).trans (by simp))),(zS _ _ (by simp<;>omega)).trans ((zS _ _ (by simp<;>omega)).trans ((zS _ _ (by simp)).trans (by simp))),(zS _ _ (by simp<;>omega)).trans ((zS _ _ (by simp<;>omega)).trans ((zS _ _ (by simp)).trans (by simp))),(zS _ _ (by simp<;>omega)).trans ((zS _ _ (by simp<;>omega)).trans ((zS _ _ (by simp)).trans (by simp))),(zS _ _ (by simp<;>omega)).trans ((zS _ _ (by simp)).trans (by simp)),(zS _ _ (by simp<;>omega)).trans ((zS _ _ (by simp)).trans (by simp)),(zS _ _ (by simp<;>omega)).trans ((zS _ _ (by simp)).trans (by simp)),(zS _ _ (by simp<;>omega)).trans ((zS _ _ (by simp)).trans (by simp)),(zS _ _ (by simp<;>omega)).trans ((zS _ _ (by simp)).trans (by simp)),(zS _ _ (by simp)).trans (qao _ _ _ 0 (by simp)),(zS _ _ (by simp)).trans (qao _ _ _ 1 (by simp)),(zS _ _ (by simp)).trans (qao _ _ _ 2 (by simp)),qao _ _ _ 0 (by simp),qao _ _ _ 1 (by simp),qao _ _ _ 2 (by simp),qao _ _ _ 3 (by simp),qao _ _ _ 4 (by simp),qao _ _ _ 5 (by simp),qao _ _ _ 6 (by simp),fun j=>qdt _ _ _ j (by simp),by simp,by go_grown⟩
theorem qkx (p a b c d:Int) (oa:Option Addr) (on oc:Nat) (code:Int) (jr ja jb:Nat) (n o k q v:Int) (w:World) (h0:0<=p) (h1:p<=1000000000) (hj:jr<4) (ha:ja<4) (hb:jb<4) (hlt:zi [a,b,c,d] ja<zi [a,b,c,d] jb):
  Calls prog 157 #[dV p a b c d oa on oc code,insV o jr ja jb n,evV k q v] w (rB w (dV (p+1) (set4 a b c d jr (1)).1 (set4 a b c d jr (1)).2.1 (set4 a b c d jr (1)).2.2.1 (set4 a b c d jr (1)).2.2.2 oa on oc code)):=by
 go_enter func157,ntmps157
 go_wp2_with fail
 generalize hW:((((w.alloc (oQ3 p a b c d oa on oc code)).alloc (oQ1 o jr ja jb n)).alloc (oQ2 k q v)).alloc (zQ1))=W at *;obtain ⟨k0,k1,k2,k3,k4,k5,k6,x0,x1,x2,x3,x4,y0,y1,y2,r0,r1,r2,r3,r4,r5,r6,rf,l3,BW'⟩:=qv7 hW;have BW:Hid (Bw w W):=BW';clear BW';clear hW;have l0:w.heap.size<W.heap.size:=by omega
 have l1:w.heap.size+1<W.heap.size:=by omega
 have l2:w.heap.size+1+1<W.heap.size:=by omega
 have ja':(ja:Int)<4:=by omega
 have ca:W.cell? ⟨w.heap.size,1+ja,none⟩=some (iV (zi [a,b,c,d] ja)):=by
  match ja,ha with
  | 0,_=>exact k1
  | 1,_=>exact k2
  | 2,_=>exact k3
  | 3,_=>exact k4
 have cb:W.cell? ⟨w.heap.size,1+jb,none⟩=some (iV (zi [a,b,c,d] jb)):=by
  match jb,hb with
  | 0,_=>exact k1
  | 1,_=>exact k2
  | 2,_=>exact k3
  | 3,_=>exact k4
 have jb':(jb:Int)<4:=by omega
 go_quiet (fail)
 go_wp2_with fail
 refine (qfk _ _ _ _ _ _ _ _ _ _ _ _ h0 h1 hj).mono ?_;rintro e w1 ⟨rfl,b1'⟩;have b1:Bw W w1:=(yC (nE W.heap.size W) nq).trans b1';obtain ⟨hc1,hf1⟩:=qal b1;have B1:Hid (Bw w w1):=BW.trans (b1.mono BW.size);clear b1 b1';go_wp2;refine bodyPost_ret (v:=dV (p+1) (set4 a b c d jr (1)).1 (set4 a b c d jr (1)).2.1 (set4 a b c d jr (1)).2.2.1 (set4 a b c d jr (1)).2.2.2 oa on oc code) (by simp [results,results157,go_sem,hc1,l3,r0,r1,r2,r3,r4,r5,r6]) rfl ⟨rfl,?_⟩;have:=B1.out
 go_grown
theorem qmw (p a b c d:Int) (oa:Option Addr) (on oc:Nat) (code:Int) (jr ja jb:Nat) (n o k q v:Int) (w:World) (h0:0<=p) (h1:p<=1000000000) (hj:jr<4) (ha:ja<4) (hb:jb<4) (hlt:¬ zi [a,b,c,d] ja<zi [a,b,c,d] jb):
  Calls prog 157 #[dV p a b c d oa on oc code,insV o jr ja jb n,evV k q v] w (rB w (dV (p+1) (set4 a b c d jr (0)).1 (set4 a b c d jr (0)).2.1 (set4 a b c d jr (0)).2.2.1 (set4 a b c d jr (0)).2.2.2 oa on oc code)):=by
 go_enter func157,ntmps157
 go_wp2_with fail
 generalize hW:((((w.alloc (oQ3 p a b c d oa on oc code)).alloc (oQ1 o jr ja jb n)).alloc (oQ2 k q v)).alloc (zQ1))=W at *;obtain ⟨k0,k1,k2,k3,k4,k5,k6,x0,x1,x2,x3,x4,y0,y1,y2,r0,r1,r2,r3,r4,r5,r6,rf,l3,BW'⟩:=qv7 hW;have BW:Hid (Bw w W):=BW';clear BW';clear hW;have l0:w.heap.size<W.heap.size:=by omega
 have l1:w.heap.size+1<W.heap.size:=by omega
 have l2:w.heap.size+1+1<W.heap.size:=by omega
 have ja':(ja:Int)<4:=by omega
 have ca:W.cell? ⟨w.heap.size,1+ja,none⟩=some (iV (zi [a,b,c,d] ja)):=by
  match ja,ha with
  | 0,_=>exact k1
  | 1,_=>exact k2
  | 2,_=>exact k3
  | 3,_=>exact k4
 have cb:W.cell? ⟨w.heap.size,1+jb,none⟩=some (iV (zi [a,b,c,d] jb)):=by
  match jb,hb with
  | 0,_=>exact k1
  | 1,_=>exact k2
  | 2,_=>exact k3
  | 3,_=>exact k4
 have jb':(jb:Int)<4:=by omega
 go_quiet (fail)
 go_wp2_with fail
 refine (qfk _ _ _ _ _ _ _ _ _ _ _ _ h0 h1 hj).mono ?_;rintro e w1 ⟨rfl,b1'⟩;have b1:Bw W w1:=(yC (nE W.heap.size W) nq).trans b1';obtain ⟨hc1,hf1⟩:=qal b1;have B1:Hid (Bw w w1):=BW.trans (b1.mono BW.size);clear b1 b1';go_wp2;refine bodyPost_ret (v:=dV (p+1) (set4 a b c d jr (0)).1 (set4 a b c d jr (0)).2.1 (set4 a b c d jr (0)).2.2.1 (set4 a b c d jr (0)).2.2.2 oa on oc code) (by simp [results,results157,go_sem,hc1,l3,r0,r1,r2,r3,r4,r5,r6]) rfl ⟨rfl,?_⟩;have:=B1.out
 go_grown
theorem qx9 {w W:World} {v0:Int} {v1:Int} {v2:Int} {v3:Int} {v4:Int} {v5:Option Addr} {v6:Nat} {v7:Nat} {v8:Int} {v9:Int} {v10:Int} {v11:Int} {v12:Int} {v13:Int} {v14:Int} {v15:Int} {v16:Int} (hW:((((w.alloc (oQ3 v0 v1 v2 v3 v4 v5 v6 v7 v8)).alloc (oQ1 v9 v10 v11 v12 v13)).alloc (oQ2 v14 v15 v16)).alloc (zQ1))=W):W.cell? ⟨w.heap.size,0,none⟩=some (iV v0)/\W.cell? ⟨w.heap.size,1,none⟩=some (iV v1)/\W.cell? ⟨w.heap.size,2,none⟩=some (iV v2)/\W.cell? ⟨w.heap.size,3,none⟩=some (iV v3)/\W.cell? ⟨w.heap.size,4,none⟩=some (iV v4)/\W.cell? ⟨w.heap.size,5,none⟩=some (.slice v5 v6 v7)/\W.cell? ⟨w.heap.size,6,none⟩=some (iV v8)/\W.cell? ⟨w.heap.size+1,0,none⟩=some (iV v9)/\W.cell? ⟨w.heap.size+1,1,none⟩=some (iV v10)/\W.cell? ⟨w.heap.size+1,2,none⟩=some (iV v11)/\W.cell? ⟨w.heap.size+1,3,none⟩=some (iV v12)/\W.cell? ⟨w.heap.size+1,4,none⟩=some (iV v13)/\W.cell? ⟨w.heap.size+1+1,0,none⟩=some (iV v14)/\W.cell? ⟨w.heap.size+1+1,1,none⟩=some (iV v15)/\W.cell? ⟨w.heap.size+1+1,2,none⟩=some (iV v16)/\W.cell? ⟨w.heap.size+1+1+1,0,none⟩=some (iV 0)/\W.cell? ⟨w.heap.size+1+1+1,1,none⟩=some (iV 0)/\W.cell? ⟨w.heap.size+1+1+1,2,none⟩=some (iV 0)/\W.cell? ⟨w.heap.size+1+1+1,3,none⟩=some (iV 0)/\W.cell? ⟨w.heap.size+1+1+1,4,none⟩=some (iV 0)/\W.cell? ⟨w.heap.size+1+1+1,5,none⟩=some nS/\W.cell? ⟨w.heap.size+1+1+1,6,none⟩=some (iV 0)/\(∀ j,W.frozen? ⟨w.heap.size+1+1+1,j,none⟩=false)/\w.heap.size+1+1+1<W.heap.size/\Bw w W/\(∀ j,W.frozen? ⟨w.heap.size,j,none⟩=false):=by
 subst hW;exact ⟨(zS _ _ (by simp<;>omega)).trans ((zS _ _ (by simp<;>omega)).trans ((zS _ _ (by simp)).trans (by simp))),(zS _ _ (by simp<;>omega)).trans ((zS _ _ (by simp<;>omega)).trans ((zS _ _ (by simp)).trans (by simp))),(zS _ _ (by simp<;>omega)).trans ((zS _ _ (by simp<;>omega)).trans ((zS _ _ (by simp)).trans (by simp))),(zS _ _ (by simp<;>omega)).trans ((zS _ _ (by simp<;>omega)).trans ((zS _ _ (by simp)).trans (by simp))),(zS _ _ (by simp<;>omega)).trans ((zS _ _ (by simp<;>omega)).trans ((zS _ _ (by simp)).trans (by simp))),(zS _ _ (by simp<;>omega)).trans ((zS _ _ (by simp<;>omega)).trans ((zS _ _ (by simp)).trans (by simp))),(zS _ _ (by simp<;>omega)).trans ((zS _ _ (by simp<;>omega)).trans ((zS _ _ (by simp)).trans (by simp))),(zS _ _ (by simp<;>omega)).trans ((zS _ _ (by simp)).trans (by simp)),(zS _ _ (by simp<;>omega)).trans ((zS _ _ (by simp)).trans (by simp)),(zS _ _ (by simp<;>omega)).trans ((zS _ _ (by simp)).trans (by simp)),(zS _ _ (by simp<;>omega)).trans ((zS _ _ (by simp)).trans (by simp)),(zS _ _ (by simp<;>omega)).trans ((zS _ _ (by simp)).trans (by simp)),(zS _ _ (by simp)).trans (qao _ _ _ 0 (by simp)),(zS _ _ (by simp)).trans (qao _ _ _ 1 (by simp)),(zS _ _ (by simp)).trans (qao _ _ _ 2 (by simp)),qao _ _ _ 0 (by simp),qao _ _ _ 1 (by simp),qao _ _ _ 2 (by simp),qao _ _ _ 3 (by simp),qao _ _ _ 4 (by simp),qao _ _ _ 5 (by simp),qao _ _ _ 6 (by simp),fun j=>qdt _ _ _ j (by simp),by simp,by go_grown,fun j=>((qal (zT _ _)).2 _ _ (by simp<;>omega)).trans (((qal (zT _ _)).2 _ _ (by simp<;>omega)).trans (((qal (zT _ _)).2 _ _ (by simp)).trans (qdt _ _ _ j rfl)))⟩
theorem qre (p a b c d:Int) (oa:Option Addr) (oc:Nat) (os:List Int) (code:Int) (jr ja jb:Nat) (n o k q v:Int) (B:Nat) (w:World) (h0:0<=p) (h1:p<=1000000000) (hn:os.length<=1048576) (hB:B<=w.heap.size) (hO:OwnI w B (.slice oa os.length oc) os):
  Calls prog 160 #[dV p a b c d oa os.length oc code,insV o jr ja jb n,evV k q v] w fun e w'=>∃ oa' oc',e=.returned (dV (p+1) a b c d oa' (os.length+1) oc' code)/\OwnI w' B (.slice oa' (os.length+1) oc') (os ++ [v])/\OwnI w' B (.slice oa os.length oc) os/\w.grownBy w' (Value.slice oa os.length oc).ownBlock/\∀ j,(Value.slice oa' (os.length+1) oc').ownBlock=some j->(Value.slice oa os.length oc).ownBlock=some j\/w.heap.size<=j:=by
 have HO:Hid (OwnI w B (.slice oa os.length oc) os):=hO;have LO:Hid (∀ j,(Value.slice oa os.length oc).ownBlock=some j->j<w.heap.size):=fun j hj=>(hO.lt j hj).2;clear hO
 go_enter func160,ntmps160
 go_wp2_with (at_builtin;refine qdo rfl ?_)
 unfold STOP;generalize hW:((((w.alloc (oQ3 p a b c d oa os.length oc code)).alloc (oQ1 o jr ja jb n)).alloc (oQ2 k q v)).alloc (zQ1))=W at *;obtain ⟨k0,k1,k2,k3,k4,k5,k6,x0,x1,x2,x3,x4,y0,y1,y2,r0,r1,r2,r3,r4,r5,r6,rf,l3,BW',kf⟩:=qx9 hW;have BW:Hid (Bw w W):=BW';clear BW'
 have HZ:Hid (w.heap.size+1+1+1+1=W.heap.size):=by
  subst hW;show _=_;simp
 clear hW;have hy:(W.alloc (.cells #[iV v] 3)).cell? ⟨w.heap.size+1+1+1+1,0,none⟩=some (iV v):=qao _ _ _ 0 (by rw [HZ.out]);have bA:=zT W (.cells #[iV v] 3);refine qgb _ rfl _ _ rfl B 1 (.slice oa os.length oc) ⟨w.heap.size+1+1+1+1,0,none⟩ os v rfl rfl ((HO.bw BW.out).bw bA) hy hn (by have:=BW.size;simp;omega) ?_;intro v1 w1 o1 p1 g1 at1
 obtain ⟨G,cap,hv1⟩:∃ G cap,v1=.slice (some (aQ G 0)) (os.length+1) cap:=by
  rcases o1.2 with ⟨rfl,e0⟩ | ⟨G,cap,cur,rfl,_⟩
  ·simp at e0
  ·exact ⟨G,cap,by simp⟩
 subst hv1;have zA:(W.alloc (.cells #[iV v] 3)).heap.size=W.heap.size+1:=by simp
 have hz:=HZ.out
 have nR:∀ j,w.heap.size<=j->some j≠(Value.slice oa os.length oc).ownBlock:=fun j hj h=>by
  have:=LO.out j h.symm;omega
 have e0:=ql0 g1 (b:=w.heap.size) (by omega) (nR _ (by omega));have e3:=ql0 g1 (b:=w.heap.size+1+1+1) (by omega) (nR _ (by omega));have q0:=(e0.1 0).trans ((zS _ _ (by omega)).trans k0);have q1:=(e0.1 1).trans ((zS _ _ (by omega)).trans k1);have q2:=(e0.1 2).trans ((zS _ _ (by omega)).trans k2);have q3:=(e0.1 3).trans ((zS _ _ (by omega)).trans k3);have q4:=(e0.1 4).trans ((zS _ _ (by omega)).trans k4);have q5:=(e0.1 5).trans ((zS _ _ (by omega)).trans k5);have q6:=(e0.1 6).trans ((zS _ _ (by omega)).trans k6);have qf:=(e0.2 5).trans (((qal bA).2 _ _ (by omega)).trans (kf 5));have s0:=(e3.1 0).trans ((zS _ _ l3).trans r0);have s1:=(e3.1 1).trans ((zS _ _ l3).trans r1);have s2:=(e3.1 2).trans ((zS _ _ l3).trans r2);have s3:=(e3.1 3).trans ((zS _ _ l3).trans r3);have s4:=(e3.1 4).trans ((zS _ _ l3).trans r4);have s5:=(e3.1 5).trans ((zS _ _ l3).trans r5);have s6:=(e3.1 6).trans ((zS _ _ l3).trans r6);have sf:=fun j=>(e3.2 j).trans (((qal bA).2 _ _ l3).trans (rf j));have z1:w.heap.size+1+1+1+1<w1.heap.size:=by have:=g1.size;omega
 have GW:Hid (w.grownBy w1 (Value.slice oa os.length oc).ownBlock):=(qbt (zZ (BW.trans (bA.mono BW.size))) _).trans g1
 have A2:Hid (∀ j,(Value.slice (some ⟨G,0,none⟩) (os.length+1) cap).ownBlock=some j->(Value.slice oa os.length oc).ownBlock=some j\/w.heap.size<=j):=by
  intro j h5
  rcases at1 with h8 | h8
  ·exact .inl (h8.symm.trans h5)
  ·rw [h5] at h8
   simp only [nG] at h8;exact .inr (by omega)
 have AT:Hid (∀ j,w.heap.size<=j->j<w.heap.size+1+1+1+1->(Value.slice (some ⟨G,0,none⟩) (os.length+1) cap).ownBlock≠some j):=by
  intro j h5 h6 h7
  rcases at1 with h8 | h8
  ·exact nR j h5 (h7.symm.trans h8)
  ·rw [h7] at h8
   simp only [nG] at h8;omega
 clear hz HZ zA bA g1 e0 e3 k0 k1 k2 k3 k4 k5 k6 kf r0 r1 r2 r3 r4 r5 r6 rf l3 x0 x1 x2 x3 x4 y0 y1 y2 BW hy;have O1:Hid (OwnI w1 B _ _):=o1;have P1:Hid (OwnI w1 B _ _):=p1;clear o1 p1 at1;go_wp2_with fail
 refine (qcd _ _ _ _ _ _ _ _ _ _ h0 h1).mono ?_;rintro e w2 ⟨rfl,b2⟩;obtain ⟨hc2,hf2⟩:=qal b2;have zz:(w1.setCell (aQ w.heap.size 5) (sG G (os.length+1) cap)).heap.size=w1.heap.size:=by simp
 have l3:w.heap.size+1+1+1<(w1.setCell (aQ w.heap.size 5) (sG G (os.length+1) cap)).heap.size:=by omega
 have gS:=zV (p:=(aQ w.heap.size 5)) (World.grownBy.refl w1 (some w.heap.size)) (.inl rfl) (sG G (os.length+1) cap);have e3:=ql0 gS (b:=w.heap.size+1+1+1) (by omega) (by simp;omega);have t0:=(hc2 _ 0 l3).trans ((e3.1 0).trans s0);have t1:=(hc2 _ 1 l3).trans ((e3.1 1).trans s1);have t2:=(hc2 _ 2 l3).trans ((e3.1 2).trans s2);have t3:=(hc2 _ 3 l3).trans ((e3.1 3).trans s3);have t4:=(hc2 _ 4 l3).trans ((e3.1 4).trans s4);have t5:=(hc2 _ 5 l3).trans ((e3.1 5).trans s5);have t6:=(hc2 _ 6 l3).trans ((e3.1 6).trans s6);have tf:=fun j=>(hf2 _ j l3).trans ((e3.2 j).trans (sf j));have O2:Hid (OwnI w2 B _ _):=(O1.setOther (p:=(aQ w.heap.size 5)) (AT.out _ (by simp) (by simp;omega)) _).bw b2;have P2:Hid (OwnI w2 B _ _):=(P1.setOther (p:=(aQ w.heap.size 5)) (fun h=>nR _ (by simp) h.symm) _).bw b2;have G2:Hid (w.grownBy w2 (Value.slice oa os.length oc).ownBlock):=(zV (p:=(aQ w.heap.size 5)) GW.out (.inr (by simp)) _).trans (qbt (zZ b2) _);have A3:Hid ((Value.slice (some (aQ G 0)) (os.length+1) cap).ownBlock≠some (w.heap.size+1+1+1)):=AT.out _ (by omega) (by omega);have N3:Hid ((Value.slice oa os.length oc).ownBlock≠some (w.heap.size+1+1+1)):=fun h=>nR _ (by omega) h.symm;clear b2 hc2 hf2 zz l3 gS e3 s0 s1 s2 s3 s4 s5 s6 sf q0 q1 q2 q3 q4 q5 q6 qf O1 P1 GW AT nR;go_wp2_with fail
 refine bodyPost_ret (v:=dV (p+1) a b c d (some ⟨G,0,none⟩) (os.length+1) cap code) (by simp [results,results160,go_sem,t0,t1,t2,t3,t4,t5,t6]) rfl ⟨_,_,rfl,?_,?_,?_,A2.out⟩
 ·repeat (refine OwnI.setOther ?_ A3.out _)
  exact O2.out
 ·repeat (refine OwnI.setOther ?_ N3.out _)
  exact P2.out
 ·repeat (refine zV ?_ (.inr (by simp;omega)) _)
  exact G2.out
theorem qh7 (nk np nv k q v:Int) (w:World):
  Calls prog 142 #[evV nk np nv,evV k q v] w (rB w (.bool (canB nk np nv k q v))):=by
 have he:=fun wx=>qyg k q v nk np nv wx;by_cases c1:nk=3
 case neg=>
  have c1':(nk != 3)=true:=by simpa using c1
  by_cases c2:nk=0
  ·subst c2
   have hv:Hid (canB 0 np nv k q v=false):=by simp [Hid,canB]
   go_enter func142,ntmps142
   go_wp2_with (first|(go_at_call 127;refine (isNum_any _ _).mono ?_;rintro e w' ⟨rfl,rfl⟩)|(go_at_call 76;refine (isBelow_any _ _ _).mono ?_;rintro e w' ⟨rfl,rfl⟩))
   refine bodyPost_ret (v:=.bool (false)) (by simp [results,results142,go_sem]) rfl ⟨by rw [hv.out],?_⟩
   go_grown
  ·have c2':(nk != 0)=true:=by simpa using c2
   have hv:Hid (canB nk np nv k q v=qe2 k q v nk np nv):=by simp [Hid,canB,qe2,c1,c2']
   clear c1 c2
   go_enter func142,ntmps142
   go_wp2_with (first|(go_at_call 127;refine (isNum_any _ _).mono ?_;rintro e w' ⟨rfl,rfl⟩)|(go_at_call 76;refine (isBelow_any _ _ _).mono ?_;rintro e w' ⟨rfl,rfl⟩))
   refine bodyPost_ret (v:=.bool (qe2 k q v nk np nv)) (by simp [results,results142,go_sem]) rfl ⟨by rw [hv.out],?_⟩
   go_grown
 subst c1;by_cases c2:k=3
 case neg=>
  have c2':(k != 3)=true:=by simpa using c2
  have hv:Hid (canB 3 np nv k q v=false):=by simp [Hid,canB,c2]
  clear c2
  go_enter func142,ntmps142
  go_wp2_with (first|(go_at_call 127;refine (isNum_any _ _).mono ?_;rintro e w' ⟨rfl,rfl⟩)|(go_at_call 76;refine (isBelow_any _ _ _).mono ?_;rintro e w' ⟨rfl,rfl⟩))
  refine bodyPost_ret (v:=.bool (false)) (by simp [results,results142,go_sem]) rfl ⟨by rw [hv.out],?_⟩
  go_grown
 subst c2
 rcases zK (numB v) with c3 | c3
 case inr=>
  have hv:Hid (canB 3 np nv 3 q v=false):=by simp [Hid,canB,c3]
  have c3':inB v (-1000000000) 1000000000=false:=c3;clear c3
  go_enter func142,ntmps142
  go_wp2_with (first|(go_at_call 127;refine (isNum_any _ _).mono ?_;rintro e w' ⟨rfl,rfl⟩)|(go_at_call 76;refine (isBelow_any _ _ _).mono ?_;rintro e w' ⟨rfl,rfl⟩))
  refine bodyPost_ret (v:=.bool (false)) (by simp [results,results142,go_sem]) rfl ⟨by rw [hv.out],?_⟩
  go_grown
 by_cases c4:np=9
 ·subst c4
  have hv:Hid (canB 3 9 nv 3 q v=belB q 4):=by simp [Hid,canB,c3]
  have c3':inB v (-1000000000) 1000000000=true:=c3;clear c3
  go_enter func142,ntmps142
  go_wp2_with (first|(go_at_call 127;refine (isNum_any _ _).mono ?_;rintro e w' ⟨rfl,rfl⟩)|(go_at_call 76;refine (isBelow_any _ _ _).mono ?_;rintro e w' ⟨rfl,rfl⟩))
  refine bodyPost_ret (v:=.bool (belB q 4)) (by simp [results,results142,go_sem]) rfl ⟨by rw [hv.out],?_⟩
  go_grown
 ·have c4':(np == 9)=false:=by simpa using c4
  have hv:Hid (canB 3 np nv 3 q v=(q == np)):=by simp [Hid,canB,c3,c4]
  have c3':inB v (-1000000000) 1000000000=true:=c3;clear c3 c4
  go_enter func142,ntmps142
  go_wp2_with (first|(go_at_call 127;refine (isNum_any _ _).mono ?_;rintro e w' ⟨rfl,rfl⟩)|(go_at_call 76;refine (isBelow_any _ _ _).mono ?_;rintro e w' ⟨rfl,rfl⟩))
  refine bodyPost_ret (v:=.bool (q == np)) (by simp [results,results142,go_sem]) rfl ⟨by rw [hv.out],?_⟩
  go_grown
open Go.Sort
theorem qht (a b c d a' b' c' d':Int) (w:World):(binOp .neq 222 (regV a b c d) (regV a' b' c' d')).run prog w=.ok (.bool (!qml a b c d a' b' c' d')) w:=by
 have h:=qjq a b c d a' b' c' d' w;simp only [binOp,Sem.run_bind,Sem.run_pure] at h ⊢
 revert h
 generalize Sem.run prog (Op.equal 222 (regV a b c d) (regV a' b' c' d')) w=r;cases r <;> simp (config:={ contextual:=true }) [Result.andThen]
theorem qo1 {w W:World} {v0:Int} {v1:Int} {v2:Int} {v3:Int} {v4:Int} {v5:Option Addr} {v6:Nat} {v7:Nat} {v8:Int} {v9:Int} {v10:Int} {v11:Int} {v12:Int} {v13:Int} {v14:Option Addr} {v15:Nat} {v16:Nat} {v17:Int} (hW:(((w.alloc (oQ3 v0 v1 v2 v3 v4 v5 v6 v7 v8)).alloc (oQ3 v9 v10 v11 v12 v13 v14 v15 v16 v17)).alloc (zQ1))=W):W.cell? ⟨w.heap.size,0,none⟩=some (iV v0)/\W.cell? ⟨w.heap.size,1,none⟩=some (iV v1)/\W.cell? ⟨w.heap.size,2,none⟩=some (iV v2)/\W.cell? ⟨w.heap.size,3,none⟩=some (iV v3)/\W.cell? ⟨w.heap.size,4,none⟩=some (iV v4)/\W.cell? ⟨w.heap.size,5,none⟩=some (.slice v5 v6 v7)/\W.cell? ⟨w.heap.size,6,none⟩=some (iV v8)/\W.cell? ⟨w.heap.size+1,0,none⟩=some (iV v9)/\W.cell? ⟨w.heap.size+1,1,none⟩=some (iV v10)/\W.cell? ⟨w.heap.size+1,2,none⟩=some (iV v11)/\W.cell? ⟨w.heap.size+1,3,none⟩=some (iV v12)/\W.cell? ⟨w.heap.size+1,4,none⟩=some (iV v13)/\W.cell? ⟨w.heap.size+1,5,none⟩=some (.slice v14 v15 v16)/\W.cell? ⟨w.heap.size+1,6,none⟩=some (iV v17)/\W.cell? ⟨w.heap.size+1+1,0,none⟩=some (iV 0)/\W.cell? ⟨w.heap.size+1+1,1,none⟩=some (iV 0)/\W.cell? ⟨w.heap.size+1+1,2,none⟩=some (iV 0)/\W.cell? ⟨w.heap.size+1+1,3,none⟩=some (iV 0)/\W.cell? ⟨w.heap.size+1+1,4,none⟩=some (iV 0)/\W.cell? ⟨w.heap.size+1+1,5,none⟩=some nS/\W.cell? ⟨w.heap.size+1+1,6,none⟩=some (iV 0)/\(∀ j,W.frozen? ⟨w.heap.size,j,none⟩=false)/\(∀ j,W.frozen? ⟨w.heap.size+1,j,none⟩=false)/\(∀ j,W.frozen? ⟨w.heap.size+1+1,j,none⟩=false)/\w.heap.size+1+1<W.heap.size/\Bw w W:=by
 subst hW;exact ⟨(zS _ _ (by simp<;>omega)).trans ((zS _ _ (by simp)).trans (by simp)),(zS _ _ (by simp<;>omega)).trans ((zS _ _ (by simp)).trans (by simp)),(zS _ _ (by simp<;>omega)).trans ((zS _ _ (by simp)).trans (by simp)),(zS _ _ (by simp<;>omega)).trans ((zS _ _ (by simp)).trans (by simp)),(zS _ _ (by simp<;>omega)).trans ((zS _ _ (by simp)).trans (by simp)),(zS _ _ (by simp<;>omega)).trans ((zS _ _ (by simp)).trans (by simp)),(zS _ _ (by simp<;>omega)).trans ((zS _ _ (by simp)).trans (by simp)),(zS _ _ (by simp)).trans (zW _ _ _ 0 (by simp)),(zS _ _ (by simp)).trans (zW _ _ _ 1 (by simp)),(zS _ _ (by simp)).trans (zW _ _ _ 2 (by simp)),(zS _ _ (by simp)).trans (zW _ _ _ 3 (by simp)),(zS _ _ (by simp)).trans (zW _ _ _ 4 (by simp)),(zS _ _ (by simp)).trans (zW _ _ _ 5 (by simp)),(zS _ _ (by simp)).trans (zW _ _ _ 6 (by simp)),zW _ _ _ 0 (by simp),zW _ _ _ 1 (by simp),zW _ _ _ 2 (by simp),zW _ _ _ 3 (by simp),zW _ _ _ 4 (by simp),zW _ _ _ 5 (by simp),zW _ _ _ 6 (by simp),fun j=>((qal (zT _ _)).2 _ _ (by simp<;>omega)).trans (((qal (zT _ _)).2 _ _ (by simp)).trans (yB _ _ _ j rfl)),fun j=>((qal (zT _ _)).2 _ _ (by simp)).trans (yB _ _ _ j (by simp)),fun j=>yB _ _ _ j (by simp),by simp,by go_grown⟩
theorem qmq (p a b c d:Int) (oa:Option Addr) (on oc:Nat) (code:Int) (p' a' b' c' d':Int) (oa':Option Addr) (on' oc':Nat) (code':Int) (n:Nat) (w:World) (hr:qc3 [a',b',c',d']=false):
  Calls prog 147 #[dV p a b c d oa on oc code,dV p' a' b' c' d' oa' on' oc' code',iV n] w (rB w (dV p a b c d oa on oc 2)):=by
 have he:∀ wx,(binOp .neq 222 (regV a' b' c' d') (regV (qbm a') (qbm b') (qbm c') (qbm d'))).run prog wx=.ok (.bool true) wx:=fun wx=>by rw [qht,qb4,hr];rfl
 go_enter func147,ntmps147
 go_wp2_with fail
 generalize hW:(((w.alloc (oQ3 p a b c d oa on oc code)).alloc (oQ3 p' a' b' c' d' oa' on' oc' code')).alloc (zQ1))=W at *;obtain ⟨k0,k1,k2,k3,k4,k5,k6,x0,x1,x2,x3,x4,x5,x6,r0,r1,r2,r3,r4,r5,r6,kf,xf,rf,l2,BW'⟩:=qo1 hW;have BW:Hid (Bw w W):=BW';clear BW';clear hW;have l0:w.heap.size<W.heap.size:=by omega
 have l1:w.heap.size+1<W.heap.size:=by omega
 have x0':=cell_regrown x0;have x1':=cell_regrown x1;have x2':=cell_regrown x2;have x3':=cell_regrown x3;have x4':=cell_regrown x4;have x5':=cell_regrown x5;have x6':=cell_regrown x6;refine wp_region_quiet_below (by kernel_rfl) (by kernel_rfl) ?_
 repeat (quiet_step (first|(go_at_call 164;exact Calls.regrown_of (qc9 _ _ _ _ _))))
 refine wpQuiet_nil ?_;intro _ hw';obtain ⟨⟨dq,osq⟩,hw''⟩:=hw';subst hw'';have b3:=below_regrown W dq osq;have B3:Hid (Bw w (grow (redrawn W dq) osq)):=BW.trans (b3.mono BW.size);obtain ⟨hc3,hf3⟩:=qal b3;generalize grow (redrawn W dq) osq=w3 at *;clear b3 x0' x1' x2' x3' x4' x5' x6' he BW hr;go_wp2_with (go_at_call 76;refine (isBelow_any _ _ _).mono ?_;rintro e w' ⟨rfl,rfl⟩)
 refine bodyPost_ret (v:=dV p a b c d oa on oc 2) (by simp [results,results147,go_sem,hc3,l2,r0,r1,r2,r3,r4,r5,r6]) rfl ⟨rfl,?_⟩;have:=B3.out
 go_grown
theorem qmo (p a b c d:Int) (oa:Option Addr) (on oc:Nat) (code:Int) (p' a' b' c' d':Int) (oa':Option Addr) (on' oc':Nat) (code':Int) (n:Nat) (w:World) (hr:qc3 [a',b',c',d']=true) (hn:(60:Int)<(on':Int)):
  Calls prog 147 #[dV p a b c d oa on oc code,dV p' a' b' c' d' oa' on' oc' code',iV n] w (rB w (dV p a b c d oa on oc 2)):=by
 have he:∀ wx,(binOp .neq 222 (regV a' b' c' d') (regV (qbm a') (qbm b') (qbm c') (qbm d'))).run prog wx=.ok (.bool false) wx:=fun wx=>by rw [qht,qb4,hr];rfl
 go_enter func147,ntmps147
 go_wp2_with fail
 generalize hW:(((w.alloc (oQ3 p a b c d oa on oc code)).alloc (oQ3 p' a' b' c' d' oa' on' oc' code')).alloc (zQ1))=W at *;obtain ⟨k0,k1,k2,k3,k4,k5,k6,x0,x1,x2,x3,x4,x5,x6,r0,r1,r2,r3,r4,r5,r6,kf,xf,rf,l2,BW'⟩:=qo1 hW;have BW:Hid (Bw w W):=BW';clear BW';clear hW;have l0:w.heap.size<W.heap.size:=by omega
 have l1:w.heap.size+1<W.heap.size:=by omega
 have x0':=cell_regrown x0;have x1':=cell_regrown x1;have x2':=cell_regrown x2;have x3':=cell_regrown x3;have x4':=cell_regrown x4;have x5':=cell_regrown x5;have x6':=cell_regrown x6;refine wp_region_quiet_below (by kernel_rfl) (by kernel_rfl) ?_
 repeat (quiet_step (first|(go_at_call 164;exact Calls.regrown_of (qc9 _ _ _ _ _))))
 refine wpQuiet_nil ?_;intro _ hw';obtain ⟨⟨dq,osq⟩,hw''⟩:=hw';subst hw'';have b3:=below_regrown W dq osq;have B3:Hid (Bw w (grow (redrawn W dq) osq)):=BW.trans (b3.mono BW.size);obtain ⟨hc3,hf3⟩:=qal b3;generalize grow (redrawn W dq) osq=w3 at *;clear b3 x0' x1' x2' x3' x4' x5' x6' he BW hr;go_wp2_with (go_at_call 76;refine (isBelow_any _ _ _).mono ?_;rintro e w' ⟨rfl,rfl⟩)
 refine bodyPost_ret (v:=dV p a b c d oa on oc 2) (by simp [results,results147,go_sem,hc3,l2,r0,r1,r2,r3,r4,r5,r6]) rfl ⟨rfl,?_⟩;have:=B3.out
 go_grown
theorem qor (p a b c d:Int) (oa:Option Addr) (on oc:Nat) (code:Int) (p' a' b' c' d':Int) (oa':Option Addr) (on' oc':Nat) (code':Int) (n:Nat) (w:World) (hr:qc3 [a',b',c',d']=true) (hn:¬ (60:Int)<(on':Int)) (hp:belB p' n=false):
  Calls prog 147 #[dV p a b c d oa on oc code,dV p' a' b' c' d' oa' on' oc' code',iV n] w (rB w (dV p a' b' c' d' oa' on' oc' 2)):=by
 have he:∀ wx,(binOp .neq 222 (regV a' b' c' d') (regV (qbm a') (qbm b') (qbm c') (qbm d'))).run prog wx=.ok (.bool false) wx:=fun wx=>by rw [qht,qb4,hr];rfl
 go_enter func147,ntmps147
 go_wp2_with fail
 generalize hW:(((w.alloc (oQ3 p a b c d oa on oc code)).alloc (oQ3 p' a' b' c' d' oa' on' oc' code')).alloc (zQ1))=W at *;obtain ⟨k0,k1,k2,k3,k4,k5,k6,x0,x1,x2,x3,x4,x5,x6,r0,r1,r2,r3,r4,r5,r6,kf,xf,rf,l2,BW'⟩:=qo1 hW;have BW:Hid (Bw w W):=BW';clear BW';clear hW;have l0:w.heap.size<W.heap.size:=by omega
 have l1:w.heap.size+1<W.heap.size:=by omega
 have x0':=cell_regrown x0;have x1':=cell_regrown x1;have x2':=cell_regrown x2;have x3':=cell_regrown x3;have x4':=cell_regrown x4;have x5':=cell_regrown x5;have x6':=cell_regrown x6;refine wp_region_quiet_below (by kernel_rfl) (by kernel_rfl) ?_
 repeat (quiet_step (first|(go_at_call 164;exact Calls.regrown_of (qc9 _ _ _ _ _))))
 refine wpQuiet_nil ?_;intro _ hw';obtain ⟨⟨dq,osq⟩,hw''⟩:=hw';subst hw'';have b3:=below_regrown W dq osq;have B3:Hid (Bw w (grow (redrawn W dq) osq)):=BW.trans (b3.mono BW.size);obtain ⟨hc3,hf3⟩:=qal b3;generalize grow (redrawn W dq) osq=w3 at *;clear b3 x0' x1' x2' x3' x4' x5' x6' he BW hr;go_wp2_with (go_at_call 76;refine (isBelow_any _ _ _).mono ?_;rintro e w' ⟨rfl,rfl⟩)
 refine bodyPost_ret (v:=dV p a' b' c' d' oa' on' oc' 2) (by simp [results,results147,go_sem,hc3,l2,r0,r1,r2,r3,r4,r5,r6]) rfl ⟨rfl,?_⟩;have:=B3.out
 go_grown
theorem qq9 (p a b c d:Int) (oa:Option Addr) (on oc:Nat) (code:Int) (p' a' b' c' d':Int) (oa':Option Addr) (on' oc':Nat) (code':Int) (n:Nat) (w:World) (hr:qc3 [a',b',c',d']=true) (hn:¬ (60:Int)<(on':Int)) (hp:belB p' n=true):
  Calls prog 147 #[dV p a b c d oa on oc code,dV p' a' b' c' d' oa' on' oc' code',iV n] w (rB w (dV p' a' b' c' d' oa' on' oc' code')):=by
 have he:∀ wx,(binOp .neq 222 (regV a' b' c' d') (regV (qbm a') (qbm b') (qbm c') (qbm d'))).run prog wx=.ok (.bool false) wx:=fun wx=>by rw [qht,qb4,hr];rfl
 go_enter func147,ntmps147
 go_wp2_with fail
 generalize hW:(((w.alloc (oQ3 p a b c d oa on oc code)).alloc (oQ3 p' a' b' c' d' oa' on' oc' code')).alloc (zQ1))=W at *;obtain ⟨k0,k1,k2,k3,k4,k5,k6,x0,x1,x2,x3,x4,x5,x6,r0,r1,r2,r3,r4,r5,r6,kf,xf,rf,l2,BW'⟩:=qo1 hW;have BW:Hid (Bw w W):=BW';clear BW';clear hW;have l0:w.heap.size<W.heap.size:=by omega
 have l1:w.heap.size+1<W.heap.size:=by omega
 have x0':=cell_regrown x0;have x1':=cell_regrown x1;have x2':=cell_regrown x2;have x3':=cell_regrown x3;have x4':=cell_regrown x4;have x5':=cell_regrown x5;have x6':=cell_regrown x6;refine wp_region_quiet_below (by kernel_rfl) (by kernel_rfl) ?_
 repeat (quiet_step (first|(go_at_call 164;exact Calls.regrown_of (qc9 _ _ _ _ _))))
 refine wpQuiet_nil ?_;intro _ hw';obtain ⟨⟨dq,osq⟩,hw''⟩:=hw';subst hw'';have b3:=below_regrown W dq osq;have B3:Hid (Bw w (grow (redrawn W dq) osq)):=BW.trans (b3.mono BW.size);obtain ⟨hc3,hf3⟩:=qal b3;generalize grow (redrawn W dq) osq=w3 at *;clear b3 x0' x1' x2' x3' x4' x5' x6' he BW hr;go_wp2_with (go_at_call 76;refine (isBelow_any _ _ _).mono ?_;rintro e w' ⟨rfl,rfl⟩)
 refine bodyPost_ret (v:=dV p' a' b' c' d' oa' on' oc' code') (by simp [results,results147,go_sem,hc3,l2,r0,r1,r2,r3,r4,r5,r6]) rfl ⟨rfl,?_⟩;have:=B3.out
 go_grown
