import Derived.Test.YtpehpclhdgpjkaaGreatDoorXe0
import Derived.Test.YtpehpclhdgpjkaaGreatDoorXe7
import Derived.Deep.RegionHeld3
import Derived.Laws.EntriesVeiled
namespace Go.Proofs.YtpehpclhdgpjkaaGreatDoor
set_option maxRecDepth 100000
set_option maxHeartbeats 2000000
open Go.RowKit
abbrev dV (p a b c d:Int) (oa:Option Addr) (on oc:Nat) (code:Int):Value:=.agg #[.int .i64 p,.int .i64 a,.int .i64 b,.int .i64 c,.int .i64 d,.slice oa on oc,.int .i64 code]
theorem onward_any (p a b c d:Int) (oa:Option Addr) (on oc:Nat) (code:Int) (w:World) (h0:0<=p) (h1:p<=1000000000):
  Calls Tryz.prog 162 #[dV p a b c d oa on oc code] w fun e w'=>e=.returned (dV (p+1) a b c d oa on oc code)/\Below w.heap.size w w':=by
 go_enter Tryz.func162,Tryz.ntmps162
 go_wp2
 refine bodyPost_ret (v:=dV (p+1) a b c d oa on oc code) (by simp [results,Tryz.results162,go_sem]) rfl ⟨rfl,?_⟩
 go_grown
def set4 (a b c d:Int) (j:Nat) (v:Int):Int × Int × Int × Int:=if j=0 then (v,b,c,d) else if j=1 then (a,v,c,d) else if j=2 then (a,b,v,d) else (a,b,c,v)
theorem put_any (p a b c d:Int) (oa:Option Addr) (on oc:Nat) (code:Int) (j:Nat) (v:Int) (w:World) (h0:0<=p) (h1:p<=1000000000) (hj:j<4):
  Calls Tryz.prog 161 #[dV p a b c d oa on oc code,.int .i64 j,.int .i64 v] w fun e w'=>e=.returned (dV (p+1) (set4 a b c d j v).1 (set4 a b c d j v).2.1 (set4 a b c d j v).2.2.1 (set4 a b c d j v).2.2.2 oa on oc code)/\Below w.heap.size w w':=by
 have hh:j=0\/j=1\/j=2\/j=3:=by omega
 rcases hh with rfl | rfl | rfl | rfl
 ·go_enter Tryz.func161,Tryz.ntmps161
  go_wp2_with fail
  refine (onward_any _ _ _ _ _ _ _ _ _ _ h0 h1).mono ?_
  rintro e w1 ⟨rfl,b1⟩
  have B1:Hid (Below w.heap.size w w1):=below_up (by go_grown) b1 (by simp;omega)
  obtain ⟨hc1,hf1⟩:=bcell b1
  clear b1
  go_wp2
  refine bodyPost_ret (v:=dV (p+1) v b c d oa on oc code) (by simp [results,Tryz.results161,go_sem,hc1]) rfl ⟨rfl,?_⟩
  have:=B1.out
  go_grown
 ·go_enter Tryz.func161,Tryz.ntmps161
  go_wp2_with fail
  refine (onward_any _ _ _ _ _ _ _ _ _ _ h0 h1).mono ?_
  rintro e w1 ⟨rfl,b1⟩
  have B1:Hid (Below w.heap.size w w1):=below_up (by go_grown) b1 (by simp;omega)
  obtain ⟨hc1,hf1⟩:=bcell b1
  clear b1
  go_wp2
  refine bodyPost_ret (v:=dV (p+1) a v c d oa on oc code) (by simp [results,Tryz.results161,go_sem,hc1]) rfl ⟨rfl,?_⟩
  have:=B1.out
  go_grown
 ·go_enter Tryz.func161,Tryz.ntmps161
  go_wp2_with fail
  refine (onward_any _ _ _ _ _ _ _ _ _ _ h0 h1).mono ?_
  rintro e w1 ⟨rfl,b1⟩
  have B1:Hid (Below w.heap.size w w1):=below_up (by go_grown) b1 (by simp;omega)
  obtain ⟨hc1,hf1⟩:=bcell b1
  clear b1
  go_wp2
  refine bodyPost_ret (v:=dV (p+1) a b v d oa on oc code) (by simp [results,Tryz.results161,go_sem,hc1]) rfl ⟨rfl,?_⟩
  have:=B1.out
  go_grown
 ·go_enter Tryz.func161,Tryz.ntmps161
  go_wp2_with fail
  refine (onward_any _ _ _ _ _ _ _ _ _ _ h0 h1).mono ?_
  rintro e w1 ⟨rfl,b1⟩
  have B1:Hid (Below w.heap.size w w1):=below_up (by go_grown) b1 (by simp;omega)
  obtain ⟨hc1,hf1⟩:=bcell b1
  clear b1
  go_wp2
  refine bodyPost_ret (v:=dV (p+1) a b c v oa on oc code) (by simp [results,Tryz.results161,go_sem,hc1]) rfl ⟨rfl,?_⟩
  have:=B1.out
  go_grown
theorem doingOf_any (p code:Int) (ra oa:Option Addr) (rc oc:Nat) (a b c d:Int) (os:List Int) (w:World) (ho:os.length<=1048576) (h1:Sl w ra [a,b,c,d]) (h2:Sl w oa os):
  Calls Tryz.prog 138 #[stV p ra 4 rc oa os.length oc code] w fun e w'=>∃ oa' oc',e=.returned (dV p a b c d oa' os.length oc' code)/\OwnI w' w.heap.size (.slice oa' os.length oc') os/\Below w.heap.size w w':=by
 have H1:Hid (Sl w ra [a,b,c,d]):=h1
 have H2:Hid (Sl w oa os):=h2
 clear h1 h2
 go_enter Tryz.func138,Tryz.ntmps138
 go_wp2_with fail
 refine (registersOf_any ra rc [a,b,c,d] _ (H1.out.below (by go_grown))).mono ?_
 rintro e w1 ⟨⟨q0,q1,q2,q3,rfl,hq⟩,b1⟩
 have hq':=hq rfl
 simp only [List.cons.injEq,and_true] at hq'
 obtain ⟨rfl,rfl,rfl,rfl⟩:=hq'
 have B1:Hid (Below w.heap.size w w1):=below_up (by go_grown) b1 (by simp;omega)
 obtain ⟨hc1,hf1⟩:=bcell b1
 have y1:w.heap.size+1<w1.heap.size:=by have:=b1.size;simp at this;omega
 have y0:w.heap.size<w1.heap.size:=by omega
 clear b1 hq
 go_wp2_with fail
 have B2:Hid (Below w.heap.size w (w1.alloc (.cells #[.int .i64 a,.int .i64 b,.int .i64 c,.int .i64 d] 187))):=B1.out.alloc (by omega) _
 generalize hW:w1.alloc (.cells #[.int .i64 a,.int .i64 b,.int .i64 c,.int .i64 d] 187)=W at *
 have lr:w1.heap.size<W.heap.size:=by rw [<- hW];simp
 have k0:W.cell? ⟨w1.heap.size,0,none⟩=some (.int .i64 a):=by rw [<- hW];simp
 have k1:W.cell? ⟨w1.heap.size,1,none⟩=some (.int .i64 b):=by rw [<- hW];simp
 have k2:W.cell? ⟨w1.heap.size,2,none⟩=some (.int .i64 c):=by rw [<- hW];simp
 have k3:W.cell? ⟨w1.heap.size,3,none⟩=some (.int .i64 d):=by rw [<- hW];simp
 have s0:W.cell? ⟨w.heap.size,0,none⟩=some (.int .i64 p):=by rw [<- hW,zQ _ _ y0,hc1 _ _ (by simp;omega)];simp
 have s2:W.cell? ⟨w.heap.size,2,none⟩=some (.slice oa os.length oc):=by rw [<- hW,zQ _ _ y0,hc1 _ _ (by simp;omega)];simp
 have s3:W.cell? ⟨w.heap.size,3,none⟩=some (.int .i64 code):=by rw [<- hW,zQ _ _ y0,hc1 _ _ (by simp;omega)];simp
 have e0:W.cell? ⟨w.heap.size+1,0,none⟩=some (.int .i64 0):=by rw [<- hW,zQ _ _ y1,hc1 _ _ (by simp)];simp
 have e1:W.cell? ⟨w.heap.size+1,1,none⟩=some (.int .i64 0):=by rw [<- hW,zQ _ _ y1,hc1 _ _ (by simp)];simp
 have e2:W.cell? ⟨w.heap.size+1,2,none⟩=some (.int .i64 0):=by rw [<- hW,zQ _ _ y1,hc1 _ _ (by simp)];simp
 have e3:W.cell? ⟨w.heap.size+1,3,none⟩=some (.int .i64 0):=by rw [<- hW,zQ _ _ y1,hc1 _ _ (by simp)];simp
 have e4:W.cell? ⟨w.heap.size+1,4,none⟩=some (.int .i64 0):=by rw [<- hW,zQ _ _ y1,hc1 _ _ (by simp)];simp
 have e5:W.cell? ⟨w.heap.size+1,5,none⟩=some (.slice none 0 0):=by rw [<- hW,zQ _ _ y1,hc1 _ _ (by simp)];simp
 have e6:W.cell? ⟨w.heap.size+1,6,none⟩=some (.int .i64 0):=by rw [<- hW,zQ _ _ y1,hc1 _ _ (by simp)];simp
 have ef:∀ j,W.frozen? ⟨w.heap.size+1,j,none⟩=false:=fun j=>by rw [<- hW,zI (Below.heap_alloc w1 _ _ y1),hf1 _ _ (by simp)];simp
 have l0:w.heap.size<W.heap.size:=by omega
 have l1:w.heap.size+1<W.heap.size:=by omega
 have ne1:w1.heap.size≠w.heap.size+1:=by omega
 have ne2:w.heap.size+1≠w1.heap.size:=by omega
 clear hc1 hf1 hW B1 y0 y1
 go_region_held3 (fun w'=>w'.cell? ⟨w.heap.size,0,none⟩=some (.int .i64 p)/\w'.cell? ⟨w.heap.size,2,none⟩=some (.slice oa os.length oc)/\w'.cell? ⟨w.heap.size,3,none⟩=some (.int .i64 code)/\w'.cell? ⟨w1.heap.size,0,none⟩=some (.int .i64 a)/\w'.cell? ⟨w1.heap.size,1,none⟩=some (.int .i64 b)/\w'.cell? ⟨w1.heap.size,2,none⟩=some (.int .i64 c)/\w'.cell? ⟨w1.heap.size,3,none⟩=some (.int .i64 d)) (go_keep)
  (first|(go_at_call 146;refine (clone_any oa oc os _ ho (by exact H2.out.below B2.out.drew)).mono ?_;rintro e w2 ⟨v2,rfl,o2,b2'⟩;have b2:Below W.heap.size W w2:=(Below.refl W.heap.size W).drew.trans b2';obtain ⟨oa2,oc2,rfl,-⟩:=o2.form;obtain ⟨hc2,hf2⟩:=bcell b2;have O2:Hid (OwnI w2 W.heap.size (.slice oa2 os.length oc2) os):=o2;have B3:Hid (Below w.heap.size w w2):=B2.out.trans (b2.mono B2.out.size);clear o2 b2 b2'))
 go_wp2
 refine bodyPost_ret (v:=dV p a b c d oa2 os.length oc2 code) (by simp [results,Tryz.results138,go_sem,hc2,l1,e0,e1,e2,e3,e4,e5,e6]) rfl ⟨_,_,rfl,?_,?_⟩
 ·refine OwnI.mono (B:=W.heap.size) ?_ (by omega)
  repeat (refine OwnI.setBelow ?_ (by simpa using by omega) _)
  exact O2.out
 ·have:=B3.out
  go_grown
theorem state_any (p a b c d:Int) (oa:Option Addr) (oc:Nat) (os:List Int) (code:Int) (B:Nat) (w:World) (hB:B<=w.heap.size) (ho:OwnI w B (.slice oa os.length oc) os):
  Calls Tryz.prog 141 #[dV p a b c d oa os.length oc code] w fun e w'=>∃ v,e=.returned v/\StOwn w' B v p [a,b,c,d] os code/\Below w.heap.size w w':=by
 have HO:Hid (OwnI w B (.slice oa os.length oc) os):=ho
 clear ho
 go_enter Tryz.func141,Tryz.ntmps141
 go_wp2_with fail
 have B2:Hid (Below w.heap.size w ((w.alloc (oQ3 p a b c d oa os.length oc code)).alloc (zQ0))):=by
  show Below _ _ _
  go_grown
 have k0:((w.alloc (oQ3 p a b c d oa os.length oc code)).alloc (zQ0)).cell? ⟨w.heap.size,0,none⟩=some (.int .i64 p):=(zQ _ _ (by simp)).trans (by simp)
 have k1:((w.alloc (oQ3 p a b c d oa os.length oc code)).alloc (zQ0)).cell? ⟨w.heap.size,1,none⟩=some (.int .i64 a):=(zQ _ _ (by simp)).trans (by simp)
 have k2:((w.alloc (oQ3 p a b c d oa os.length oc code)).alloc (zQ0)).cell? ⟨w.heap.size,2,none⟩=some (.int .i64 b):=(zQ _ _ (by simp)).trans (by simp)
 have k3:((w.alloc (oQ3 p a b c d oa os.length oc code)).alloc (zQ0)).cell? ⟨w.heap.size,3,none⟩=some (.int .i64 c):=(zQ _ _ (by simp)).trans (by simp)
 have k4:((w.alloc (oQ3 p a b c d oa os.length oc code)).alloc (zQ0)).cell? ⟨w.heap.size,4,none⟩=some (.int .i64 d):=(zQ _ _ (by simp)).trans (by simp)
 have k5:((w.alloc (oQ3 p a b c d oa os.length oc code)).alloc (zQ0)).cell? ⟨w.heap.size,5,none⟩=some (.slice oa os.length oc):=(zQ _ _ (by simp)).trans (by simp)
 have k6:((w.alloc (oQ3 p a b c d oa os.length oc code)).alloc (zQ0)).cell? ⟨w.heap.size,6,none⟩=some (.int .i64 code):=(zQ _ _ (by simp)).trans (by simp)
 have e0:((w.alloc (oQ3 p a b c d oa os.length oc code)).alloc (zQ0)).cell? ⟨w.heap.size+1,0,none⟩=some (.int .i64 0):=by simp
 have e1:((w.alloc (oQ3 p a b c d oa os.length oc code)).alloc (zQ0)).cell? ⟨w.heap.size+1,1,none⟩=some (.slice none 0 0):=by simp
 have e2:((w.alloc (oQ3 p a b c d oa os.length oc code)).alloc (zQ0)).cell? ⟨w.heap.size+1,2,none⟩=some (.slice none 0 0):=by simp
 have e3:((w.alloc (oQ3 p a b c d oa os.length oc code)).alloc (zQ0)).cell? ⟨w.heap.size+1,3,none⟩=some (.int .i64 0):=by simp
 have ef:∀ j,((w.alloc (oQ3 p a b c d oa os.length oc code)).alloc (zQ0)).frozen? ⟨w.heap.size+1,j,none⟩=false:=fun j=>by simp
 have l1:w.heap.size+1<((w.alloc (oQ3 p a b c d oa os.length oc code)).alloc (zQ0)).heap.size:=by simp
 generalize (w.alloc (oQ3 p a b c d oa os.length oc code)).alloc (zQ0)=W at *
 have l0:w.heap.size<W.heap.size:=by omega
 have HS : Hid (Sl W (some ⟨w.heap.size, 1, none⟩) [a, b, c, d]) := .inr ⟨_, _, rfl, l0, fun i hi => by
  match i,hi with
  | 0,_=>exact k1
  | 1,_=>exact k2
  | 2,_=>exact k3
  | 3,_=>exact k4⟩
 have ne2:w.heap.size+1≠w.heap.size:=by omega
 have ne1:w.heap.size≠w.heap.size+1:=by omega
 go_region_held3 (fun w'=>w'.cell? ⟨w.heap.size,0,none⟩=some (.int .i64 p)/\w'.cell? ⟨w.heap.size,5,none⟩=some (.slice oa os.length oc)/\w'.cell? ⟨w.heap.size,6,none⟩=some (.int .i64 code)) (go_keep)
  (first|(go_at_call 146;refine (clone_any _ _ [a,b,c,d] _ (by simp) (by exact HS.out.below ((Below.refl W.heap.size W).drew))).mono ?_;rintro e w2 ⟨v2,rfl,o2,b2'⟩;have b2:Below W.heap.size W w2:=(Below.refl W.heap.size W).drew.trans b2';obtain ⟨ra2,rc2,hv2,-⟩:=o2.form;rw [show [a,b,c,d].length=4 from rfl] at hv2;subst hv2;obtain ⟨hc2,hf2⟩:=bcell b2;have O2:Hid (OwnI w2 W.heap.size (.slice ra2 4 rc2) [a,b,c,d]):=o2;have P2:Hid (OwnI w2 B (.slice oa os.length oc) os):=(HO.out.below B2.out).below b2;have B3:Hid (Below w.heap.size w w2):=B2.out.trans (b2.mono B2.out.size);clear o2 b2 b2'))
 have lo:∀ j,(Value.slice oa os.length oc).ownBlock=some j->j<w.heap.size:=fun j hj=>(HO.out.lt j hj).2
 have LO:Hid (∀ j,(Value.slice oa os.length oc).ownBlock=some j->j<w.heap.size):=lo
 clear lo HS k0 k1 k2 k3 k4 k5 k6
 go_wp2
 refine bodyPost_ret (v:=stV p ra2 4 rc2 oa os.length oc code) (by simp [results,Tryz.results141,go_sem,hc2,l1,e0,e1,e2,e3]) rfl ⟨_,rfl,⟨_,_,rfl,?_,?_,?_⟩,?_⟩
 ·refine OwnI.mono (B:=W.heap.size) ?_ (by omega)
  repeat (refine OwnI.setBelow ?_ (by simpa using l1) _)
  exact O2.out
 ·repeat (refine OwnI.setOther ?_ (fun e=>by have:=LO.out _ e;simp at this;omega) _)
  exact P2.out
 ·intro j h1 h2
  have:=(O2.out.lt j h1).1
  have:=LO.out j h2
  omega
 ·have:=B3.out
  go_grown
theorem new_cellB (w:World) (cs:Array Value) (t:TypeId) (j:Nat) {N:Nat} (h:N=w.heap.size):(w.alloc (.cells cs t)).cell? ⟨N,j,none⟩=cs[j]?:=by
 subst h
 simp
theorem new_frozenB (w:World) (cs:Array Value) (t:TypeId) (j:Nat) {N:Nat} (h:N=w.heap.size):(w.alloc (.cells cs t)).frozen? ⟨N,j,none⟩=false:=by
 subst h
 simp
theorem set4_list (a b c d:Int) (j:Nat) (v:Int) (hj:j<4):[(set4 a b c d j v).1,(set4 a b c d j v).2.1,(set4 a b c d j v).2.2.1,(set4 a b c d j v).2.2.2]=[a,b,c,d].set j v:=by
 match j,hj with
 | 0,_=>rfl
 | 1,_=>rfl
 | 2,_=>rfl
 | 3,_=>rfl
theorem step_set (p a b c d:Int) (oa:Option Addr) (on oc:Nat) (code:Int) (jr ja jb:Nat) (n o k q v:Int) (w:World) (h0:0<=p) (h1:p<=1000000000) (hj:jr<4):
  Calls Tryz.prog 147 #[dV p a b c d oa on oc code,insV o jr ja jb n,evV k q v] w fun e w'=>e=.returned (dV (p+1) (set4 a b c d jr (n)).1 (set4 a b c d jr (n)).2.1 (set4 a b c d jr (n)).2.2.1 (set4 a b c d jr (n)).2.2.2 oa on oc code)/\Below w.heap.size w w':=by
 go_enter Tryz.func147,Tryz.ntmps147
 go_wp2_with fail
 refine (put_any _ _ _ _ _ _ _ _ _ _ _ _ h0 h1 hj).mono ?_
 rintro e w1 ⟨rfl,b1⟩
 have B1:Hid (Below w.heap.size w w1):=below_up (by go_grown) b1 (by simp;omega)
 obtain ⟨hc1,hf1⟩:=bcell b1
 clear b1
 go_wp2
 refine bodyPost_ret (v:=dV (p+1) (set4 a b c d jr (n)).1 (set4 a b c d jr (n)).2.1 (set4 a b c d jr (n)).2.2.1 (set4 a b c d jr (n)).2.2.2 oa on oc code) (by simp [results,Tryz.results147,go_sem,hc1]) rfl ⟨rfl,?_⟩
 have:=B1.out
 go_grown
theorem step_take (p a b c d:Int) (oa:Option Addr) (on oc:Nat) (code:Int) (jr ja jb:Nat) (n o k q v:Int) (w:World) (h0:0<=p) (h1:p<=1000000000) (hj:jr<4):
  Calls Tryz.prog 153 #[dV p a b c d oa on oc code,insV o jr ja jb n,evV k q v] w fun e w'=>e=.returned (dV (p+1) (set4 a b c d jr (v)).1 (set4 a b c d jr (v)).2.1 (set4 a b c d jr (v)).2.2.1 (set4 a b c d jr (v)).2.2.2 oa on oc code)/\Below w.heap.size w w':=by
 go_enter Tryz.func153,Tryz.ntmps153
 go_wp2_with fail
 refine (put_any _ _ _ _ _ _ _ _ _ _ _ _ h0 h1 hj).mono ?_
 rintro e w1 ⟨rfl,b1⟩
 have B1:Hid (Below w.heap.size w w1):=below_up (by go_grown) b1 (by simp;omega)
 obtain ⟨hc1,hf1⟩:=bcell b1
 clear b1
 go_wp2
 refine bodyPost_ret (v:=dV (p+1) (set4 a b c d jr (v)).1 (set4 a b c d jr (v)).2.1 (set4 a b c d jr (v)).2.2.1 (set4 a b c d jr (v)).2.2.2 oa on oc code) (by simp [results,Tryz.results153,go_sem,hc1]) rfl ⟨rfl,?_⟩
 have:=B1.out
 go_grown
theorem step_send (p a b c d:Int) (oa:Option Addr) (on oc:Nat) (code:Int) (jr ja jb:Nat) (n o k q v:Int) (w:World) (h0:0<=p) (h1:p<=1000000000):
  Calls Tryz.prog 152 #[dV p a b c d oa on oc code,insV o jr ja jb n,evV k q v] w fun e w'=>e=.returned (dV (p+1) a b c d oa on oc code)/\Below w.heap.size w w':=by
 go_enter Tryz.func152,Tryz.ntmps152
 go_wp2_with fail
 refine (onward_any _ _ _ _ _ _ _ _ _ _ h0 h1).mono ?_
 rintro e w1 ⟨rfl,b1⟩
 have B1:Hid (Below w.heap.size w w1):=below_up (by go_grown) b1 (by simp;omega)
 obtain ⟨hc1,hf1⟩:=bcell b1
 clear b1
 go_wp2
 refine bodyPost_ret (v:=dV (p+1) a b c d oa on oc code) (by simp [results,Tryz.results152,go_sem,hc1]) rfl ⟨rfl,?_⟩
 have:=B1.out
 go_grown
theorem step_jump (p a b c d:Int) (oa:Option Addr) (on oc:Nat) (code:Int) (jr ja jb:Nat) (n o k q v:Int) (w:World) (_h0:0<=p) (_h1:p<=1000000000):
  Calls Tryz.prog 155 #[dV p a b c d oa on oc code,insV o jr ja jb n,evV k q v] w fun e w'=>e=.returned (dV n a b c d oa on oc code)/\Below w.heap.size w w':=by
 go_enter Tryz.func155,Tryz.ntmps155
 go_wp2
 refine bodyPost_ret (v:=dV n a b c d oa on oc code) (by simp [results,Tryz.results155,go_sem]) rfl ⟨rfl,?_⟩
 go_grown
theorem step_end (p a b c d:Int) (oa:Option Addr) (on oc:Nat) (code:Int) (jr ja jb:Nat) (n o k q v:Int) (w:World) (_h0:0<=p) (_h1:p<=1000000000):
  Calls Tryz.prog 157 #[dV p a b c d oa on oc code,insV o jr ja jb n,evV k q v] w fun e w'=>e=.returned (dV p a b c d oa on oc 1)/\Below w.heap.size w w':=by
 go_enter Tryz.func157,Tryz.ntmps157
 go_wp2
 refine bodyPost_ret (v:=dV p a b c d oa on oc 1) (by simp [results,Tryz.results157,go_sem]) rfl ⟨rfl,?_⟩
 go_grown
theorem diB_w1 {w W:World} {v0:Int} {v1:Int} {v2:Int} {v3:Int} {v4:Int} {v5:Option Addr} {v6:Nat} {v7:Nat} {v8:Int} {v9:Int} {v10:Int} {v11:Int} {v12:Int} {v13:Int} {v14:Int} {v15:Int} {v16:Int} (hW:((((w.alloc (oQ3 v0 v1 v2 v3 v4 v5 v6 v7 v8)).alloc (oQ2 v9 v10 v11 v12 v13)).alloc (oQ0 v14 v15 v16)).alloc (zQ1))=W):W.cell? ⟨w.heap.size,0,none⟩=some (.int .i64 v0)/\W.cell? ⟨w.heap.size,1,none⟩=some (.int .i64 v1)/\W.cell? ⟨w.heap.size,2,none⟩=some (.int .i64 v2)/\W.cell? ⟨w.heap.size,3,none⟩=some (.int .i64 v3)/\W.cell? ⟨w.heap.size,4,none⟩=some (.int .i64 v4)/\W.cell? ⟨w.heap.size,5,none⟩=some (.slice v5 v6 v7)/\W.cell? ⟨w.heap.size,6,none⟩=some (.int .i64 v8)/\W.cell? ⟨w.heap.size+1,0,none⟩=some (.int .i64 v9)/\W.cell? ⟨w.heap.size+1,1,none⟩=some (.int .i64 v10)/\W.cell? ⟨w.heap.size+1,2,none⟩=some (.int .i64 v11)/\W.cell? ⟨w.heap.size+1,3,none⟩=some (.int .i64 v12)/\W.cell? ⟨w.heap.size+1,4,none⟩=some (.int .i64 v13)/\W.cell? ⟨w.heap.size+1+1,0,none⟩=some (.int .i64 v14)/\W.cell? ⟨w.heap.size+1+1,1,none⟩=some (.int .i64 v15)/\W.cell? ⟨w.heap.size+1+1,2,none⟩=some (.int .i64 v16)/\W.cell? ⟨w.heap.size+1+1+1,0,none⟩=some (.int .i64 0)/\W.cell? ⟨w.heap.size+1+1+1,1,none⟩=some (.int .i64 0)/\W.cell? ⟨w.heap.size+1+1+1,2,none⟩=some (.int .i64 0)/\W.cell? ⟨w.heap.size+1+1+1,3,none⟩=some (.int .i64 0)/\W.cell? ⟨w.heap.size+1+1+1,4,none⟩=some (.int .i64 0)/\W.cell? ⟨w.heap.size+1+1+1,5,none⟩=some (.slice none 0 0)/\W.cell? ⟨w.heap.size+1+1+1,6,none⟩=some (.int .i64 0)/\(∀ j,W.frozen? ⟨w.heap.size+1+1+1,j,none⟩=false)/\w.heap.size+1+1+1<W.heap.size/\Below w.heap.size w W:=by
 subst hW
 exact ⟨(zQ _ _ (by simp<;>omega)).trans ((zQ _ _ (by simp<;>omega)).trans ((zQ _ _ (by simp)).trans (by simp))),(zQ _ _ (by simp<;>omega)).trans ((zQ _ _ (by simp<;>omega)).trans ((zQ _ _ (by simp)).trans (by simp))),(zQ _ _ (by simp<;>omega)).trans ((zQ _ _ (by simp<;>omega)).trans ((zQ _ _ (by simp)).trans (by simp))),(zQ _ _ (by simp<;>omega)).trans ((zQ _ _ (by simp<;>omega)).trans ((zQ _ _ (by simp)).trans (by simp))),(zQ _ _ (by simp<;>omega)).trans ((zQ _ _ (by simp<;>omega)).trans ((zQ _ _ (by simp)).trans (by simp))),(zQ _ _ (by simp<;>omega)).trans ((zQ _ _ (by simp<;>omega)).trans ((zQ _ _ (by simp)).trans (by simp))),(zQ _ _ (by simp<;>omega)).trans ((zQ _ _ (by simp<;>omega)).trans ((zQ _ _ (by simp)).trans (by simp))),(zQ _ _ (by simp<;>omega)).trans ((zQ _ _ (by simp)).trans (by simp)),(zQ _ _ (by simp<;>omega)).trans ((zQ _ _ (by simp)).trans (by simp)),(zQ _ _ (by simp<;>omega)).trans ((zQ _ _ (by simp)).trans (by simp)),(zQ _ _ (by simp<;>omega)).trans ((zQ _ _ (by simp)).trans (by simp)),(zQ _ _ (by simp<;>omega)).trans ((zQ _ _ (by simp)).trans (by simp)),(zQ _ _ (by simp)).trans (new_cellB _ _ _ 0 (by simp)),(zQ _ _ (by simp)).trans (new_cellB _ _ _ 1 (by simp)),(zQ _ _ (by simp)).trans (new_cellB _ _ _ 2 (by simp)),new_cellB _ _ _ 0 (by simp),new_cellB _ _ _ 1 (by simp),new_cellB _ _ _ 2 (by simp),new_cellB _ _ _ 3 (by simp),new_cellB _ _ _ 4 (by simp),new_cellB _ _ _ 5 (by simp),new_cellB _ _ _ 6 (by simp),fun j=>new_frozenB _ _ _ j (by simp),by simp,by go_grown⟩
theorem step_add (p a b c d:Int) (oa:Option Addr) (on oc:Nat) (code:Int) (jr ja jb:Nat) (n o k q v:Int) (w:World) (h0:0<=p) (h1:p<=1000000000) (hj:jr<4) (ha:ja<4) (hb:jb<4) (na1:-1000000000<=zi [a,b,c,d] ja) (na2:zi [a,b,c,d] ja<=1000000000) (nb1:-1000000000<=zi [a,b,c,d] jb) (nb2:zi [a,b,c,d] jb<=1000000000) (mb1:-1000000000000000000<=zi [a,b,c,d] ja*zi [a,b,c,d] jb) (mb2:zi [a,b,c,d] ja*zi [a,b,c,d] jb<=1000000000000000000):
  Calls Tryz.prog 148 #[dV p a b c d oa on oc code,insV o jr ja jb n,evV k q v] w fun e w'=>e=.returned (dV (p+1) (set4 a b c d jr (zi [a,b,c,d] ja+zi [a,b,c,d] jb)).1 (set4 a b c d jr (zi [a,b,c,d] ja+zi [a,b,c,d] jb)).2.1 (set4 a b c d jr (zi [a,b,c,d] ja+zi [a,b,c,d] jb)).2.2.1 (set4 a b c d jr (zi [a,b,c,d] ja+zi [a,b,c,d] jb)).2.2.2 oa on oc code)/\Below w.heap.size w w':=by
 go_enter Tryz.func148,Tryz.ntmps148
 go_wp2_with fail
 generalize hW:((((w.alloc (oQ3 p a b c d oa on oc code)).alloc (oQ2 o jr ja jb n)).alloc (oQ0 k q v)).alloc (zQ1))=W at *
 obtain ⟨k0,k1,k2,k3,k4,k5,k6,x0,x1,x2,x3,x4,y0,y1,y2,r0,r1,r2,r3,r4,r5,r6,rf,l3,BW'⟩:=diB_w1 hW
 have BW:Hid (Below w.heap.size w W):=BW'
 clear BW'
 clear hW
 have l0:w.heap.size<W.heap.size:=by omega
 have l1:w.heap.size+1<W.heap.size:=by omega
 have l2:w.heap.size+1+1<W.heap.size:=by omega
 have ja':(ja:Int)<4:=by omega
 have ca:W.cell? ⟨w.heap.size,1+ja,none⟩=some (.int .i64 (zi [a,b,c,d] ja)):=by
  match ja,ha with
  | 0,_=>exact k1
  | 1,_=>exact k2
  | 2,_=>exact k3
  | 3,_=>exact k4
 have cb:W.cell? ⟨w.heap.size,1+jb,none⟩=some (.int .i64 (zi [a,b,c,d] jb)):=by
  match jb,hb with
  | 0,_=>exact k1
  | 1,_=>exact k2
  | 2,_=>exact k3
  | 3,_=>exact k4
 have jb':(jb:Int)<4:=by omega
 have hw:IntKind.i64.wrap (zi [a,b,c,d] ja+zi [a,b,c,d] jb)=zi [a,b,c,d] ja+zi [a,b,c,d] jb:=by rw [IntKind.wrap_i64];omega
 generalize hN3:w.heap.size+1+1+1=N3 at *
 generalize hN2:w.heap.size+1+1=N2 at *
 generalize hN1:w.heap.size+1=N1 at *
 have ne1:w.heap.size≠N3:=by omega
 have ne2:N1≠N3:=by omega
 have ne3:N3≠w.heap.size:=by omega
 have ne4:N3≠N1:=by omega
 have HN:Hid (w.heap.size<N3):=by show w.heap.size<N3;omega
 clear hN1 hN2 hN3
 go_region_held3 (fun w'=>w'.cell? ⟨w.heap.size,0,none⟩=some (.int .i64 p)/\w'.cell? ⟨w.heap.size,1,none⟩=some (.int .i64 a)/\w'.cell? ⟨w.heap.size,2,none⟩=some (.int .i64 b)/\w'.cell? ⟨w.heap.size,3,none⟩=some (.int .i64 c)/\w'.cell? ⟨w.heap.size,4,none⟩=some (.int .i64 d)/\w'.cell? ⟨w.heap.size,5,none⟩=some (.slice oa on oc)/\w'.cell? ⟨w.heap.size,6,none⟩=some (.int .i64 code)/\w'.cell? ⟨N1,1,none⟩=some (.int .i64 jr)/\w'.cell? ⟨N1,2,none⟩=some (.int .i64 ja)/\w'.cell? ⟨N1,3,none⟩=some (.int .i64 jb)/\w'.cell? ⟨w.heap.size,1+ja,none⟩=some (.int .i64 (zi [a,b,c,d] ja))/\w'.cell? ⟨w.heap.size,1+jb,none⟩=some (.int .i64 (zi [a,b,c,d] jb))) (go_keep)
  (first|(go_at_call 161;refine (put_any _ _ _ _ _ _ _ _ _ _ _ _ h0 h1 hj).mono ?_;rintro e w1 ⟨rfl,b1'⟩;have b1:Below W.heap.size W w1:=(Below.refl W.heap.size W).drew.trans b1';obtain ⟨hc1,hf1⟩:=bcell b1;have B1:Hid (Below w.heap.size w w1):=BW.out.trans (b1.mono BW.out.size);clear b1 b1'))
 go_wp2
 refine bodyPost_ret (v:=dV (p+1) (set4 a b c d jr (zi [a,b,c,d] ja+zi [a,b,c,d] jb)).1 (set4 a b c d jr (zi [a,b,c,d] ja+zi [a,b,c,d] jb)).2.1 (set4 a b c d jr (zi [a,b,c,d] ja+zi [a,b,c,d] jb)).2.2.1 (set4 a b c d jr (zi [a,b,c,d] ja+zi [a,b,c,d] jb)).2.2.2 oa on oc code) (by simp [results,Tryz.results148,go_sem,hc1,l3,r0,r1,r2,r3,r4,r5,r6]) rfl ⟨rfl,?_⟩
 have:=B1.out
 have:=HN.out
 go_grown
theorem step_sub (p a b c d:Int) (oa:Option Addr) (on oc:Nat) (code:Int) (jr ja jb:Nat) (n o k q v:Int) (w:World) (h0:0<=p) (h1:p<=1000000000) (hj:jr<4) (ha:ja<4) (hb:jb<4) (na1:-1000000000<=zi [a,b,c,d] ja) (na2:zi [a,b,c,d] ja<=1000000000) (nb1:-1000000000<=zi [a,b,c,d] jb) (nb2:zi [a,b,c,d] jb<=1000000000) (mb1:-1000000000000000000<=zi [a,b,c,d] ja*zi [a,b,c,d] jb) (mb2:zi [a,b,c,d] ja*zi [a,b,c,d] jb<=1000000000000000000):
  Calls Tryz.prog 149 #[dV p a b c d oa on oc code,insV o jr ja jb n,evV k q v] w fun e w'=>e=.returned (dV (p+1) (set4 a b c d jr (zi [a,b,c,d] ja - zi [a,b,c,d] jb)).1 (set4 a b c d jr (zi [a,b,c,d] ja - zi [a,b,c,d] jb)).2.1 (set4 a b c d jr (zi [a,b,c,d] ja - zi [a,b,c,d] jb)).2.2.1 (set4 a b c d jr (zi [a,b,c,d] ja - zi [a,b,c,d] jb)).2.2.2 oa on oc code)/\Below w.heap.size w w':=by
 go_enter Tryz.func149,Tryz.ntmps149
 go_wp2_with fail
 generalize hW:((((w.alloc (oQ3 p a b c d oa on oc code)).alloc (oQ2 o jr ja jb n)).alloc (oQ0 k q v)).alloc (zQ1))=W at *
 obtain ⟨k0,k1,k2,k3,k4,k5,k6,x0,x1,x2,x3,x4,y0,y1,y2,r0,r1,r2,r3,r4,r5,r6,rf,l3,BW'⟩:=diB_w1 hW
 have BW:Hid (Below w.heap.size w W):=BW'
 clear BW'
 clear hW
 have l0:w.heap.size<W.heap.size:=by omega
 have l1:w.heap.size+1<W.heap.size:=by omega
 have l2:w.heap.size+1+1<W.heap.size:=by omega
 have ja':(ja:Int)<4:=by omega
 have ca:W.cell? ⟨w.heap.size,1+ja,none⟩=some (.int .i64 (zi [a,b,c,d] ja)):=by
  match ja,ha with
  | 0,_=>exact k1
  | 1,_=>exact k2
  | 2,_=>exact k3
  | 3,_=>exact k4
 have cb:W.cell? ⟨w.heap.size,1+jb,none⟩=some (.int .i64 (zi [a,b,c,d] jb)):=by
  match jb,hb with
  | 0,_=>exact k1
  | 1,_=>exact k2
  | 2,_=>exact k3
  | 3,_=>exact k4
 have jb':(jb:Int)<4:=by omega
 have hw:IntKind.i64.wrap (zi [a,b,c,d] ja - zi [a,b,c,d] jb)=zi [a,b,c,d] ja - zi [a,b,c,d] jb:=by rw [IntKind.wrap_i64];omega
 generalize hN3:w.heap.size+1+1+1=N3 at *
 generalize hN2:w.heap.size+1+1=N2 at *
 generalize hN1:w.heap.size+1=N1 at *
 have ne1:w.heap.size≠N3:=by omega
 have ne2:N1≠N3:=by omega
 have ne3:N3≠w.heap.size:=by omega
 have ne4:N3≠N1:=by omega
 have HN:Hid (w.heap.size<N3):=by show w.heap.size<N3;omega
 clear hN1 hN2 hN3
 go_region_held3 (fun w'=>w'.cell? ⟨w.heap.size,0,none⟩=some (.int .i64 p)/\w'.cell? ⟨w.heap.size,1,none⟩=some (.int .i64 a)/\w'.cell? ⟨w.heap.size,2,none⟩=some (.int .i64 b)/\w'.cell? ⟨w.heap.size,3,none⟩=some (.int .i64 c)/\w'.cell? ⟨w.heap.size,4,none⟩=some (.int .i64 d)/\w'.cell? ⟨w.heap.size,5,none⟩=some (.slice oa on oc)/\w'.cell? ⟨w.heap.size,6,none⟩=some (.int .i64 code)/\w'.cell? ⟨N1,1,none⟩=some (.int .i64 jr)/\w'.cell? ⟨N1,2,none⟩=some (.int .i64 ja)/\w'.cell? ⟨N1,3,none⟩=some (.int .i64 jb)/\w'.cell? ⟨w.heap.size,1+ja,none⟩=some (.int .i64 (zi [a,b,c,d] ja))/\w'.cell? ⟨w.heap.size,1+jb,none⟩=some (.int .i64 (zi [a,b,c,d] jb))) (go_keep)
  (first|(go_at_call 161;refine (put_any _ _ _ _ _ _ _ _ _ _ _ _ h0 h1 hj).mono ?_;rintro e w1 ⟨rfl,b1'⟩;have b1:Below W.heap.size W w1:=(Below.refl W.heap.size W).drew.trans b1';obtain ⟨hc1,hf1⟩:=bcell b1;have B1:Hid (Below w.heap.size w w1):=BW.out.trans (b1.mono BW.out.size);clear b1 b1'))
 go_wp2
 refine bodyPost_ret (v:=dV (p+1) (set4 a b c d jr (zi [a,b,c,d] ja - zi [a,b,c,d] jb)).1 (set4 a b c d jr (zi [a,b,c,d] ja - zi [a,b,c,d] jb)).2.1 (set4 a b c d jr (zi [a,b,c,d] ja - zi [a,b,c,d] jb)).2.2.1 (set4 a b c d jr (zi [a,b,c,d] ja - zi [a,b,c,d] jb)).2.2.2 oa on oc code) (by simp [results,Tryz.results149,go_sem,hc1,l3,r0,r1,r2,r3,r4,r5,r6]) rfl ⟨rfl,?_⟩
 have:=B1.out
 have:=HN.out
 go_grown
theorem step_mul (p a b c d:Int) (oa:Option Addr) (on oc:Nat) (code:Int) (jr ja jb:Nat) (n o k q v:Int) (w:World) (h0:0<=p) (h1:p<=1000000000) (hj:jr<4) (ha:ja<4) (hb:jb<4) (na1:-1000000000<=zi [a,b,c,d] ja) (na2:zi [a,b,c,d] ja<=1000000000) (nb1:-1000000000<=zi [a,b,c,d] jb) (nb2:zi [a,b,c,d] jb<=1000000000) (mb1:-1000000000000000000<=zi [a,b,c,d] ja*zi [a,b,c,d] jb) (mb2:zi [a,b,c,d] ja*zi [a,b,c,d] jb<=1000000000000000000):
  Calls Tryz.prog 150 #[dV p a b c d oa on oc code,insV o jr ja jb n,evV k q v] w fun e w'=>e=.returned (dV (p+1) (set4 a b c d jr (zi [a,b,c,d] ja*zi [a,b,c,d] jb)).1 (set4 a b c d jr (zi [a,b,c,d] ja*zi [a,b,c,d] jb)).2.1 (set4 a b c d jr (zi [a,b,c,d] ja*zi [a,b,c,d] jb)).2.2.1 (set4 a b c d jr (zi [a,b,c,d] ja*zi [a,b,c,d] jb)).2.2.2 oa on oc code)/\Below w.heap.size w w':=by
 go_enter Tryz.func150,Tryz.ntmps150
 go_wp2_with fail
 generalize hW:((((w.alloc (oQ3 p a b c d oa on oc code)).alloc (oQ2 o jr ja jb n)).alloc (oQ0 k q v)).alloc (zQ1))=W at *
 obtain ⟨k0,k1,k2,k3,k4,k5,k6,x0,x1,x2,x3,x4,y0,y1,y2,r0,r1,r2,r3,r4,r5,r6,rf,l3,BW'⟩:=diB_w1 hW
 have BW:Hid (Below w.heap.size w W):=BW'
 clear BW'
 clear hW
 have l0:w.heap.size<W.heap.size:=by omega
 have l1:w.heap.size+1<W.heap.size:=by omega
 have l2:w.heap.size+1+1<W.heap.size:=by omega
 have ja':(ja:Int)<4:=by omega
 have ca:W.cell? ⟨w.heap.size,1+ja,none⟩=some (.int .i64 (zi [a,b,c,d] ja)):=by
  match ja,ha with
  | 0,_=>exact k1
  | 1,_=>exact k2
  | 2,_=>exact k3
  | 3,_=>exact k4
 have cb:W.cell? ⟨w.heap.size,1+jb,none⟩=some (.int .i64 (zi [a,b,c,d] jb)):=by
  match jb,hb with
  | 0,_=>exact k1
  | 1,_=>exact k2
  | 2,_=>exact k3
  | 3,_=>exact k4
 have jb':(jb:Int)<4:=by omega
 have hw:IntKind.i64.wrap (zi [a,b,c,d] ja*zi [a,b,c,d] jb)=zi [a,b,c,d] ja*zi [a,b,c,d] jb:=by rw [IntKind.wrap_i64];omega
 generalize hN3:w.heap.size+1+1+1=N3 at *
 generalize hN2:w.heap.size+1+1=N2 at *
 generalize hN1:w.heap.size+1=N1 at *
 have ne1:w.heap.size≠N3:=by omega
 have ne2:N1≠N3:=by omega
 have ne3:N3≠w.heap.size:=by omega
 have ne4:N3≠N1:=by omega
 have HN:Hid (w.heap.size<N3):=by show w.heap.size<N3;omega
 clear hN1 hN2 hN3
 go_region_held3 (fun w'=>w'.cell? ⟨w.heap.size,0,none⟩=some (.int .i64 p)/\w'.cell? ⟨w.heap.size,1,none⟩=some (.int .i64 a)/\w'.cell? ⟨w.heap.size,2,none⟩=some (.int .i64 b)/\w'.cell? ⟨w.heap.size,3,none⟩=some (.int .i64 c)/\w'.cell? ⟨w.heap.size,4,none⟩=some (.int .i64 d)/\w'.cell? ⟨w.heap.size,5,none⟩=some (.slice oa on oc)/\w'.cell? ⟨w.heap.size,6,none⟩=some (.int .i64 code)/\w'.cell? ⟨N1,1,none⟩=some (.int .i64 jr)/\w'.cell? ⟨N1,2,none⟩=some (.int .i64 ja)/\w'.cell? ⟨N1,3,none⟩=some (.int .i64 jb)/\w'.cell? ⟨w.heap.size,1+ja,none⟩=some (.int .i64 (zi [a,b,c,d] ja))/\w'.cell? ⟨w.heap.size,1+jb,none⟩=some (.int .i64 (zi [a,b,c,d] jb))) (go_keep)
  (first|(go_at_call 161;refine (put_any _ _ _ _ _ _ _ _ _ _ _ _ h0 h1 hj).mono ?_;rintro e w1 ⟨rfl,b1'⟩;have b1:Below W.heap.size W w1:=(Below.refl W.heap.size W).drew.trans b1';obtain ⟨hc1,hf1⟩:=bcell b1;have B1:Hid (Below w.heap.size w w1):=BW.out.trans (b1.mono BW.out.size);clear b1 b1'))
 go_wp2
 refine bodyPost_ret (v:=dV (p+1) (set4 a b c d jr (zi [a,b,c,d] ja*zi [a,b,c,d] jb)).1 (set4 a b c d jr (zi [a,b,c,d] ja*zi [a,b,c,d] jb)).2.1 (set4 a b c d jr (zi [a,b,c,d] ja*zi [a,b,c,d] jb)).2.2.1 (set4 a b c d jr (zi [a,b,c,d] ja*zi [a,b,c,d] jb)).2.2.2 oa on oc code) (by simp [results,Tryz.results150,go_sem,hc1,l3,r0,r1,r2,r3,r4,r5,r6]) rfl ⟨rfl,?_⟩
 have:=B1.out
 have:=HN.out
 go_grown
theorem nextslicecap_ok (n cap:Nat) (h:n<=2000000) (hc:cap<n):Builtin.nextslicecap n cap*8<=281474976710656:=growslice_fits hc (by omega)
theorem run_append_keep (w:World) (ty:TypeId) (B c:Nat) (v:Value) (ad:Addr) (xs:List Int) (y:Int) (h:OwnI w B v xs) (hy:w.cell? ad=some (.int .i64 y)) (hn:xs.length<=1048576) (hB:B<=w.heap.size):
  ∃ v' w',(Builtin.append_ #[48,48] ty #[v,.slice (some ad) 1 c]).run Tryz.prog w=.ok v' w'/\OwnI w' B v' (xs ++ [y])/\OwnI w' B v xs/\w.grownBy w' v.ownBlock/\(v'.ownBlock=v.ownBlock\/v'.ownBlock=some w.heap.size):=by
 obtain ⟨i,hi,hz,hs,hb⟩:=info_int
 have hnews:∀ j u,([y].map (Value.int .i64))[j]? = some u->w.cell? (ad.add j)=some u:=by
  intro j u hj
  match j,hj with
  | 0,hj=>
   simp at hj
   subst hj
   simpa [Addr.add] using hy
 obtain ⟨v',w',h1,h2,h3,_,h5⟩:=run_append_own_at (P:=Tryz.prog) w B 48 ty 3 i (.int .i64 0) 1 8 Tryz.underlying48 hi hz hs hb rfl (by decide) v xs.length (xs.map (Value.int .i64)) h ad 1 c ([y].map (Value.int .i64)) (by simp) hnews (one_ints [y]) (by unfold maxLen;omega) (by omega) hB
 refine ⟨v',w',h1,?_,?_,h3,h5⟩
 ·unfold OwnI
  rw [List.length_append,List.map_append]
  exact h2
 ·rcases h.2 with ⟨rfl,h0⟩ | ⟨g,cap,cur,rfl,hbg,hg,hnc,hcm,hcs,htake⟩
  ·exact ⟨h.1,.inl ⟨rfl,h0⟩⟩
  ·by_cases hroom:xs.length+1<=cap
   ·have hr:=run_append_room (P:=Tryz.prog) w 48 ty 3 i Tryz.underlying48 hi g xs.length cap cur hg ad 1 c ([y].map (Value.int .i64)) (by rw [hs];rfl) hnews (one_ints [y]) hroom (by rw [hs];simp;omega)
    rw [hr] at h1
    simp only [Result.ok.injEq] at h1
    obtain ⟨-,rfl⟩:=h1
    refine ⟨h.1,.inr ⟨g,cap,_,rfl,hbg,setRow_heap w g cur _ 3 _ hg,hnc,hcm,?_,?_⟩⟩
    ·rw [hs]
     simp only [List.size_toArray,List.length_append,List.length_take,List.length_drop,Array.length_toList,List.length_map,List.length_cons,List.length_nil]
     omega
    ·rw [hs]
     simp only [Nat.mul_one] at htake ⊢
     rw [htake]
     simp only [List.append_assoc]
     rw [List.take_append_of_le_length (by simp),List.take_of_length_le (by simp)]
   ·have holds:∀ j u,(xs.map (Value.int .i64))[j]? = some u->w.cell? ((⟨g,0,none⟩:Addr).add j)=some u:=World.ownsRow.cells h (g:=g) rfl
    have hr:=run_append_grow (P:=Tryz.prog) w 48 ty 3 i (.int .i64 0) Tryz.underlying48 hi hz ⟨g,0,none⟩ xs.length cap (xs.map (Value.int .i64)) (by rw [hs];simp) holds ad 1 c ([y].map (Value.int .i64)) (by rw [hs];rfl) hnews (by omega) (by omega) (by rw [hb];exact nextslicecap_ok _ _ (by omega) (by omega))
    rw [hr] at h1
    simp only [Result.ok.injEq] at h1
    obtain ⟨-,rfl⟩:=h1
    exact h.below ((Below.refl w.heap.size w).drew.alloc (by simp) _)
theorem wpList_append_keep {ops:Array Oper} {rest:List Oper} {op:Oper} {act:Act} {Q:Exit->Act->World->Prop} (w:World) (hgd:op.guard=none) (s x:Operand)
  (ho:op.op=.call { callee:=.builtin .append,args:=#[s,x],argTypes:=#[48,48] })
  (B c:Nat) (v:Value) (ad:Addr) (xs:List Int) (y:Int) (hs:act.eval s=v) (hx:act.eval x=.slice (some ad) 1 c) (hv:OwnI w B v xs) (hy:w.cell? ad=some (.int .i64 y)) (hn:xs.length<=1048576) (hB:B<=w.heap.size)
  (h:∀ v' w',OwnI w' B v' (xs ++ [y])->OwnI w' B v xs->w.grownBy w' v.ownBlock->(v'.ownBlock=v.ownBlock\/v'.ownBlock=some w.heap.size)->wpList Tryz.prog ops Q rest (act.put op.dst v') w'):
  wpList Tryz.prog ops Q (op :: rest) act w:=by
 obtain ⟨v',w',h1,h2,h3,h4,h5⟩:=run_append_keep w op.type B c v ad xs y hv hy hn hB
 refine wpList_plain hgd fun K hK=>?_
 unfold Oper.wp execOp
 simp only [ho,resolve,invoke,builtin,Sem.run_bind,Sem.run_pure,Result.andThen_ok,List.map_toArray,List.map_cons,List.map_nil,hs,hx,h1]
 exact hK _ _ (h v' w' h2 h3 h4 h5)
theorem step_zero_yes (p a b c d:Int) (oa:Option Addr) (on oc:Nat) (code:Int) (jr ja jb:Nat) (n o k q v:Int) (w:World) (_h0:0<=p) (_h1:p<=1000000000) (ha:ja<4) (hz:(zi [a,b,c,d] ja == 0)=true):
  Calls Tryz.prog 156 #[dV p a b c d oa on oc code,insV o jr ja jb n,evV k q v] w fun e w'=>e=.returned (dV n a b c d oa on oc code)/\Below w.heap.size w w':=by
 have ca:((((w.alloc (oQ3 p a b c d oa on oc code)).alloc (oQ2 o jr ja jb n)).alloc (oQ0 k q v)).alloc (zQ1)).cell? ⟨w.heap.size,1+ja,none⟩=some (.int .i64 (zi [a,b,c,d] ja)):=by
  refine (zQ _ _ (by simp<;>omega)).trans ((zQ _ _ (by simp<;>omega)).trans ((zQ _ _ (by simp)).trans ?_))
  match ja,ha with
  | 0,_=>simp [zi]
  | 1,_=>simp [zi]
  | 2,_=>simp [zi]
  | 3,_=>simp [zi]
 have ja':(ja:Int)<4:=by omega
 go_enter Tryz.func156,Tryz.ntmps156
 go_wp2_with fail
 refine (step_jump _ _ _ _ _ _ _ _ _ _ _ _ _ _ _ _ _ _ _h0 _h1).mono ?_
 rintro e w1 ⟨rfl,b1⟩
 have B1:Hid (Below w.heap.size w w1):=below_up (by go_grown) b1 (by simp;omega)
 obtain ⟨hc1,hf1⟩:=bcell b1
 clear b1
 go_wp2
 refine bodyPost_ret (v:=dV n a b c d oa on oc code) (by simp [results,Tryz.results156,go_sem,hc1]) rfl ⟨rfl,?_⟩
 have:=B1.out
 go_grown
theorem step_zero_no (p a b c d:Int) (oa:Option Addr) (on oc:Nat) (code:Int) (jr ja jb:Nat) (n o k q v:Int) (w:World) (h0:0<=p) (h1:p<=1000000000) (ha:ja<4) (hz:(zi [a,b,c,d] ja == 0)=false):
  Calls Tryz.prog 156 #[dV p a b c d oa on oc code,insV o jr ja jb n,evV k q v] w fun e w'=>e=.returned (dV (p+1) a b c d oa on oc code)/\Below w.heap.size w w':=by
 have ca:((((w.alloc (oQ3 p a b c d oa on oc code)).alloc (oQ2 o jr ja jb n)).alloc (oQ0 k q v)).alloc (zQ1)).cell? ⟨w.heap.size,1+ja,none⟩=some (.int .i64 (zi [a,b,c,d] ja)):=by
  refine (zQ _ _ (by simp<;>omega)).trans ((zQ _ _ (by simp<;>omega)).trans ((zQ _ _ (by simp)).trans ?_))
  match ja,ha with
  | 0,_=>simp [zi]
  | 1,_=>simp [zi]
  | 2,_=>simp [zi]
  | 3,_=>simp [zi]
 have ja':(ja:Int)<4:=by omega
 go_enter Tryz.func156,Tryz.ntmps156
 go_wp2_with fail
 refine (onward_any _ _ _ _ _ _ _ _ _ _ h0 h1).mono ?_
 rintro e w1 ⟨rfl,b1⟩
 have B1:Hid (Below w.heap.size w w1):=below_up (by go_grown) b1 (by simp;omega)
 obtain ⟨hc1,hf1⟩:=bcell b1
 clear b1
 go_wp2
 refine bodyPost_ret (v:=dV (p+1) a b c d oa on oc code) (by simp [results,Tryz.results156,go_sem,hc1]) rfl ⟨rfl,?_⟩
 have:=B1.out
 go_grown
theorem diC_w1 {w W:World} {v0:Int} {v1:Int} {v2:Int} {v3:Int} {v4:Int} {v5:Option Addr} {v6:Nat} {v7:Nat} {v8:Int} {v9:Int} {v10:Int} {v11:Int} {v12:Int} {v13:Int} {v14:Int} {v15:Int} {v16:Int} (hW:((((w.alloc (oQ3 v0 v1 v2 v3 v4 v5 v6 v7 v8)).alloc (oQ2 v9 v10 v11 v12 v13)).alloc (oQ0 v14 v15 v16)).alloc (zQ1))=W):W.cell? ⟨w.heap.size,0,none⟩=some (.int .i64 v0)/\W.cell? ⟨w.heap.size,1,none⟩=some (.int .i64 v1)/\W.cell? ⟨w.heap.size,2,none⟩=some (.int .i64 v2)/\W.cell? ⟨w.heap.size,3,none⟩=some (.int .i64 v3)/\W.cell? ⟨w.heap.size,4,none⟩=some (.int .i64 v4)/\W.cell? ⟨w.heap.size,5,none⟩=some (.slice v5 v6 v7)/\W.cell? ⟨w.heap.size,6,none⟩=some (.int .i64 v8)/\W.cell? ⟨w.heap.size+1,0,none⟩=some (.int .i64 v9)/\W.cell? ⟨w.heap.size+1,1,none⟩=some (.int .i64 v10)/\W.cell? ⟨w.heap.size+1,2,none⟩=some (.int .i64 v11)/\W.cell? ⟨w.heap.size+1,3,none⟩=some (.int .i64 v12)/\W.cell? ⟨w.heap.size+1,4,none⟩=some (.int .i64 v13)/\W.cell? ⟨w.heap.size+1+1,0,none⟩=some (.int .i64 v14)/\W.cell? ⟨w.heap.size+1+1,1,none⟩=some (.int .i64 v15)/\W.cell? ⟨w.heap.size+1+1,2,none⟩=some (.int .i64 v16)/\W.cell? ⟨w.heap.size+1+1+1,0,none⟩=some (.int .i64 0)/\W.cell? ⟨w.heap.size+1+1+1,1,none⟩=some (.int .i64 0)/\W.cell? ⟨w.heap.size+1+1+1,2,none⟩=some (.int .i64 0)/\W.cell? ⟨w.heap.size+1+1+1,3,none⟩=some (.int .i64 0)/\W.cell? ⟨w.heap.size+1+1+1,4,none⟩=some (.int .i64 0)/\W.cell? ⟨w.heap.size+1+1+1,5,none⟩=some (.slice none 0 0)/\W.cell? ⟨w.heap.size+1+1+1,6,none⟩=some (.int .i64 0)/\(∀ j,W.frozen? ⟨w.heap.size+1+1+1,j,none⟩=false)/\w.heap.size+1+1+1<W.heap.size/\Below w.heap.size w W:=by
 subst hW
 exact ⟨(zQ _ _ (by simp<;>omega)).trans ((zQ _ _ (by simp<;>omega)).trans ((zQ _ _ (by simp)).trans (by simp))),(zQ _ _ (by simp<;>omega)).trans ((zQ _ _ (by simp<;>omega)).trans ((zQ _ _ (by simp)).trans (by simp))),(zQ _ _ (by simp<;>omega)).trans ((zQ _ _ (by simp<;>omega)).trans ((zQ _ _ (by simp)).trans (by simp))),(zQ _ _ (by simp<;>omega)).trans ((zQ _ _ (by simp<;>omega)).trans ((zQ _ _ (by simp)).trans (by simp))),(zQ _ _ (by simp<;>omega)).trans ((zQ _ _ (by simp<;>omega)).trans ((zQ _ _ (by simp)).trans (by simp))),(zQ _ _ (by simp<;>omega)).trans ((zQ _ _ (by simp<;>omega)).trans ((zQ _ _ (by simp)).trans (by simp))),(zQ _ _ (by simp<;>omega)).trans ((zQ _ _ (by simp<;>omega)).trans ((zQ _ _ (by simp)).trans (by simp))),(zQ _ _ (by simp<;>omega)).trans ((zQ _ _ (by simp)).trans (by simp)),(zQ _ _ (by simp<;>omega)).trans ((zQ _ _ (by simp)).trans (by simp)),(zQ _ _ (by simp<;>omega)).trans ((zQ _ _ (by simp)).trans (by simp)),(zQ _ _ (by simp<;>omega)).trans ((zQ _ _ (by simp)).trans (by simp)),(zQ _ _ (by simp<;>omega)).trans ((zQ _ _ (by simp)).trans (by simp)),(zQ _ _ (by simp)).trans (new_cellB _ _ _ 0 (by simp)),(zQ _ _ (by simp)).trans (new_cellB _ _ _ 1 (by simp)),(zQ _ _ (by simp)).trans (new_cellB _ _ _ 2 (by simp)),new_cellB _ _ _ 0 (by simp),new_cellB _ _ _ 1 (by simp),new_cellB _ _ _ 2 (by simp),new_cellB _ _ _ 3 (by simp),new_cellB _ _ _ 4 (by simp),new_cellB _ _ _ 5 (by simp),new_cellB _ _ _ 6 (by simp),fun j=>new_frozenB _ _ _ j (by simp),by simp,by go_grown⟩
theorem step_less_yes (p a b c d:Int) (oa:Option Addr) (on oc:Nat) (code:Int) (jr ja jb:Nat) (n o k q v:Int) (w:World) (h0:0<=p) (h1:p<=1000000000) (hj:jr<4) (ha:ja<4) (hb:jb<4) (hlt:zi [a,b,c,d] ja<zi [a,b,c,d] jb):
  Calls Tryz.prog 151 #[dV p a b c d oa on oc code,insV o jr ja jb n,evV k q v] w fun e w'=>e=.returned (dV (p+1) (set4 a b c d jr (1)).1 (set4 a b c d jr (1)).2.1 (set4 a b c d jr (1)).2.2.1 (set4 a b c d jr (1)).2.2.2 oa on oc code)/\Below w.heap.size w w':=by
 go_enter Tryz.func151,Tryz.ntmps151
 go_wp2_with fail
 generalize hW:((((w.alloc (oQ3 p a b c d oa on oc code)).alloc (oQ2 o jr ja jb n)).alloc (oQ0 k q v)).alloc (zQ1))=W at *
 obtain ⟨k0,k1,k2,k3,k4,k5,k6,x0,x1,x2,x3,x4,y0,y1,y2,r0,r1,r2,r3,r4,r5,r6,rf,l3,BW'⟩:=diC_w1 hW
 have BW:Hid (Below w.heap.size w W):=BW'
 clear BW'
 clear hW
 have l0:w.heap.size<W.heap.size:=by omega
 have l1:w.heap.size+1<W.heap.size:=by omega
 have l2:w.heap.size+1+1<W.heap.size:=by omega
 have ja':(ja:Int)<4:=by omega
 have ca:W.cell? ⟨w.heap.size,1+ja,none⟩=some (.int .i64 (zi [a,b,c,d] ja)):=by
  match ja,ha with
  | 0,_=>exact k1
  | 1,_=>exact k2
  | 2,_=>exact k3
  | 3,_=>exact k4
 have cb:W.cell? ⟨w.heap.size,1+jb,none⟩=some (.int .i64 (zi [a,b,c,d] jb)):=by
  match jb,hb with
  | 0,_=>exact k1
  | 1,_=>exact k2
  | 2,_=>exact k3
  | 3,_=>exact k4
 have jb':(jb:Int)<4:=by omega
 go_quiet (fail)
 go_wp2_with fail
 refine (put_any _ _ _ _ _ _ _ _ _ _ _ _ h0 h1 hj).mono ?_
 rintro e w1 ⟨rfl,b1'⟩
 have b1:Below W.heap.size W w1:=(yB (Below.refl W.heap.size W) nq).trans b1'
 obtain ⟨hc1,hf1⟩:=bcell b1
 have B1:Hid (Below w.heap.size w w1):=BW.out.trans (b1.mono BW.out.size)
 clear b1 b1'
 go_wp2
 refine bodyPost_ret (v:=dV (p+1) (set4 a b c d jr (1)).1 (set4 a b c d jr (1)).2.1 (set4 a b c d jr (1)).2.2.1 (set4 a b c d jr (1)).2.2.2 oa on oc code) (by simp [results,Tryz.results151,go_sem,hc1,l3,r0,r1,r2,r3,r4,r5,r6]) rfl ⟨rfl,?_⟩
 have:=B1.out
 go_grown
theorem step_less_no (p a b c d:Int) (oa:Option Addr) (on oc:Nat) (code:Int) (jr ja jb:Nat) (n o k q v:Int) (w:World) (h0:0<=p) (h1:p<=1000000000) (hj:jr<4) (ha:ja<4) (hb:jb<4) (hlt:¬ zi [a,b,c,d] ja<zi [a,b,c,d] jb):
  Calls Tryz.prog 151 #[dV p a b c d oa on oc code,insV o jr ja jb n,evV k q v] w fun e w'=>e=.returned (dV (p+1) (set4 a b c d jr (0)).1 (set4 a b c d jr (0)).2.1 (set4 a b c d jr (0)).2.2.1 (set4 a b c d jr (0)).2.2.2 oa on oc code)/\Below w.heap.size w w':=by
 go_enter Tryz.func151,Tryz.ntmps151
 go_wp2_with fail
 generalize hW:((((w.alloc (oQ3 p a b c d oa on oc code)).alloc (oQ2 o jr ja jb n)).alloc (oQ0 k q v)).alloc (zQ1))=W at *
 obtain ⟨k0,k1,k2,k3,k4,k5,k6,x0,x1,x2,x3,x4,y0,y1,y2,r0,r1,r2,r3,r4,r5,r6,rf,l3,BW'⟩:=diC_w1 hW
 have BW:Hid (Below w.heap.size w W):=BW'
 clear BW'
 clear hW
 have l0:w.heap.size<W.heap.size:=by omega
 have l1:w.heap.size+1<W.heap.size:=by omega
 have l2:w.heap.size+1+1<W.heap.size:=by omega
 have ja':(ja:Int)<4:=by omega
 have ca:W.cell? ⟨w.heap.size,1+ja,none⟩=some (.int .i64 (zi [a,b,c,d] ja)):=by
  match ja,ha with
  | 0,_=>exact k1
  | 1,_=>exact k2
  | 2,_=>exact k3
  | 3,_=>exact k4
 have cb:W.cell? ⟨w.heap.size,1+jb,none⟩=some (.int .i64 (zi [a,b,c,d] jb)):=by
  match jb,hb with
  | 0,_=>exact k1
  | 1,_=>exact k2
  | 2,_=>exact k3
  | 3,_=>exact k4
 have jb':(jb:Int)<4:=by omega
 go_quiet (fail)
 go_wp2_with fail
 refine (put_any _ _ _ _ _ _ _ _ _ _ _ _ h0 h1 hj).mono ?_
 rintro e w1 ⟨rfl,b1'⟩
 have b1:Below W.heap.size W w1:=(yB (Below.refl W.heap.size W) nq).trans b1'
 obtain ⟨hc1,hf1⟩:=bcell b1
 have B1:Hid (Below w.heap.size w w1):=BW.out.trans (b1.mono BW.out.size)
 clear b1 b1'
 go_wp2
 refine bodyPost_ret (v:=dV (p+1) (set4 a b c d jr (0)).1 (set4 a b c d jr (0)).2.1 (set4 a b c d jr (0)).2.2.1 (set4 a b c d jr (0)).2.2.2 oa on oc code) (by simp [results,Tryz.results151,go_sem,hc1,l3,r0,r1,r2,r3,r4,r5,r6]) rfl ⟨rfl,?_⟩
 have:=B1.out
 go_grown
theorem diC_w2 {w W:World} {v0:Int} {v1:Int} {v2:Int} {v3:Int} {v4:Int} {v5:Option Addr} {v6:Nat} {v7:Nat} {v8:Int} {v9:Int} {v10:Int} {v11:Int} {v12:Int} {v13:Int} {v14:Int} {v15:Int} {v16:Int} (hW:((((w.alloc (oQ3 v0 v1 v2 v3 v4 v5 v6 v7 v8)).alloc (oQ2 v9 v10 v11 v12 v13)).alloc (oQ0 v14 v15 v16)).alloc (zQ1))=W):W.cell? ⟨w.heap.size,0,none⟩=some (.int .i64 v0)/\W.cell? ⟨w.heap.size,1,none⟩=some (.int .i64 v1)/\W.cell? ⟨w.heap.size,2,none⟩=some (.int .i64 v2)/\W.cell? ⟨w.heap.size,3,none⟩=some (.int .i64 v3)/\W.cell? ⟨w.heap.size,4,none⟩=some (.int .i64 v4)/\W.cell? ⟨w.heap.size,5,none⟩=some (.slice v5 v6 v7)/\W.cell? ⟨w.heap.size,6,none⟩=some (.int .i64 v8)/\W.cell? ⟨w.heap.size+1,0,none⟩=some (.int .i64 v9)/\W.cell? ⟨w.heap.size+1,1,none⟩=some (.int .i64 v10)/\W.cell? ⟨w.heap.size+1,2,none⟩=some (.int .i64 v11)/\W.cell? ⟨w.heap.size+1,3,none⟩=some (.int .i64 v12)/\W.cell? ⟨w.heap.size+1,4,none⟩=some (.int .i64 v13)/\W.cell? ⟨w.heap.size+1+1,0,none⟩=some (.int .i64 v14)/\W.cell? ⟨w.heap.size+1+1,1,none⟩=some (.int .i64 v15)/\W.cell? ⟨w.heap.size+1+1,2,none⟩=some (.int .i64 v16)/\W.cell? ⟨w.heap.size+1+1+1,0,none⟩=some (.int .i64 0)/\W.cell? ⟨w.heap.size+1+1+1,1,none⟩=some (.int .i64 0)/\W.cell? ⟨w.heap.size+1+1+1,2,none⟩=some (.int .i64 0)/\W.cell? ⟨w.heap.size+1+1+1,3,none⟩=some (.int .i64 0)/\W.cell? ⟨w.heap.size+1+1+1,4,none⟩=some (.int .i64 0)/\W.cell? ⟨w.heap.size+1+1+1,5,none⟩=some (.slice none 0 0)/\W.cell? ⟨w.heap.size+1+1+1,6,none⟩=some (.int .i64 0)/\(∀ j,W.frozen? ⟨w.heap.size+1+1+1,j,none⟩=false)/\w.heap.size+1+1+1<W.heap.size/\Below w.heap.size w W/\(∀ j,W.frozen? ⟨w.heap.size,j,none⟩=false):=by
 subst hW
 exact ⟨(zQ _ _ (by simp<;>omega)).trans ((zQ _ _ (by simp<;>omega)).trans ((zQ _ _ (by simp)).trans (by simp))),(zQ _ _ (by simp<;>omega)).trans ((zQ _ _ (by simp<;>omega)).trans ((zQ _ _ (by simp)).trans (by simp))),(zQ _ _ (by simp<;>omega)).trans ((zQ _ _ (by simp<;>omega)).trans ((zQ _ _ (by simp)).trans (by simp))),(zQ _ _ (by simp<;>omega)).trans ((zQ _ _ (by simp<;>omega)).trans ((zQ _ _ (by simp)).trans (by simp))),(zQ _ _ (by simp<;>omega)).trans ((zQ _ _ (by simp<;>omega)).trans ((zQ _ _ (by simp)).trans (by simp))),(zQ _ _ (by simp<;>omega)).trans ((zQ _ _ (by simp<;>omega)).trans ((zQ _ _ (by simp)).trans (by simp))),(zQ _ _ (by simp<;>omega)).trans ((zQ _ _ (by simp<;>omega)).trans ((zQ _ _ (by simp)).trans (by simp))),(zQ _ _ (by simp<;>omega)).trans ((zQ _ _ (by simp)).trans (by simp)),(zQ _ _ (by simp<;>omega)).trans ((zQ _ _ (by simp)).trans (by simp)),(zQ _ _ (by simp<;>omega)).trans ((zQ _ _ (by simp)).trans (by simp)),(zQ _ _ (by simp<;>omega)).trans ((zQ _ _ (by simp)).trans (by simp)),(zQ _ _ (by simp<;>omega)).trans ((zQ _ _ (by simp)).trans (by simp)),(zQ _ _ (by simp)).trans (new_cellB _ _ _ 0 (by simp)),(zQ _ _ (by simp)).trans (new_cellB _ _ _ 1 (by simp)),(zQ _ _ (by simp)).trans (new_cellB _ _ _ 2 (by simp)),new_cellB _ _ _ 0 (by simp),new_cellB _ _ _ 1 (by simp),new_cellB _ _ _ 2 (by simp),new_cellB _ _ _ 3 (by simp),new_cellB _ _ _ 4 (by simp),new_cellB _ _ _ 5 (by simp),new_cellB _ _ _ 6 (by simp),fun j=>new_frozenB _ _ _ j (by simp),by simp,by go_grown,fun j=>((bcell (zS _ _)).2 _ _ (by simp<;>omega)).trans (((bcell (zS _ _)).2 _ _ (by simp<;>omega)).trans (((bcell (zS _ _)).2 _ _ (by simp)).trans (new_frozenB _ _ _ j rfl)))⟩
theorem step_print (p a b c d:Int) (oa:Option Addr) (oc:Nat) (os:List Int) (code:Int) (jr ja jb:Nat) (n o k q v:Int) (B:Nat) (w:World) (h0:0<=p) (h1:p<=1000000000) (hn:os.length<=1048576) (hB:B<=w.heap.size) (hO:OwnI w B (.slice oa os.length oc) os):
  Calls Tryz.prog 154 #[dV p a b c d oa os.length oc code,insV o jr ja jb n,evV k q v] w fun e w'=>∃ oa' oc',e=.returned (dV (p+1) a b c d oa' (os.length+1) oc' code)/\OwnI w' B (.slice oa' (os.length+1) oc') (os ++ [v])/\OwnI w' B (.slice oa os.length oc) os/\w.grownBy w' (Value.slice oa os.length oc).ownBlock/\∀ j,(Value.slice oa' (os.length+1) oc').ownBlock=some j->(Value.slice oa os.length oc).ownBlock=some j\/w.heap.size<=j:=by
 have HO:Hid (OwnI w B (.slice oa os.length oc) os):=hO
 have LO:Hid (∀ j,(Value.slice oa os.length oc).ownBlock=some j->j<w.heap.size):=fun j hj=>(hO.lt j hj).2
 clear hO
 go_enter Tryz.func154,Tryz.ntmps154
 go_wp2_with (at_builtin;refine append_stop rfl ?_)
 unfold STOP
 generalize hW:((((w.alloc (oQ3 p a b c d oa os.length oc code)).alloc (oQ2 o jr ja jb n)).alloc (oQ0 k q v)).alloc (zQ1))=W at *
 obtain ⟨k0,k1,k2,k3,k4,k5,k6,x0,x1,x2,x3,x4,y0,y1,y2,r0,r1,r2,r3,r4,r5,r6,rf,l3,BW',kf⟩:=diC_w2 hW
 have BW:Hid (Below w.heap.size w W):=BW'
 clear BW'
 have HZ:Hid (w.heap.size+1+1+1+1=W.heap.size):=by
  subst hW
  show _=_
  simp
 clear hW
 have hy:(W.alloc (.cells #[.int .i64 v] 3)).cell? ⟨w.heap.size+1+1+1+1,0,none⟩=some (.int .i64 v):=new_cellB _ _ _ 0 (by rw [HZ.out])
 have bA:=zS W (.cells #[.int .i64 v] 3)
 refine wpList_append_keep _ rfl _ _ rfl B 1 (.slice oa os.length oc) ⟨w.heap.size+1+1+1+1,0,none⟩ os v rfl rfl ((HO.out.below BW.out).below bA) hy hn (by have:=BW.out.size;simp;omega) ?_
 intro v1 w1 o1 p1 g1 at1
 obtain ⟨G,cap,hv1⟩:∃ G cap,v1=.slice (some ⟨G,0,none⟩) (os.length+1) cap:=by
  rcases o1.2 with ⟨rfl,e0⟩ | ⟨G,cap,cur,rfl,_⟩
  ·simp at e0
  ·exact ⟨G,cap,by simp⟩
 subst hv1
 have zA:(W.alloc (.cells #[.int .i64 v] 3)).heap.size=W.heap.size+1:=by simp
 have hz:=HZ.out
 have nR:∀ j,w.heap.size<=j->some j≠(Value.slice oa os.length oc).ownBlock:=fun j hj h=>by
  have:=LO.out j h.symm
  omega
 have e0:=gcell g1 (b:=w.heap.size) (by omega) (nR _ (by omega))
 have e3:=gcell g1 (b:=w.heap.size+1+1+1) (by omega) (nR _ (by omega))
 have q0:=(e0.1 0).trans ((zQ _ _ (by omega)).trans k0)
 have q1:=(e0.1 1).trans ((zQ _ _ (by omega)).trans k1)
 have q2:=(e0.1 2).trans ((zQ _ _ (by omega)).trans k2)
 have q3:=(e0.1 3).trans ((zQ _ _ (by omega)).trans k3)
 have q4:=(e0.1 4).trans ((zQ _ _ (by omega)).trans k4)
 have q5:=(e0.1 5).trans ((zQ _ _ (by omega)).trans k5)
 have q6:=(e0.1 6).trans ((zQ _ _ (by omega)).trans k6)
 have qf:=(e0.2 5).trans (((bcell bA).2 _ _ (by omega)).trans (kf 5))
 have s0:=(e3.1 0).trans ((zQ _ _ l3).trans r0)
 have s1:=(e3.1 1).trans ((zQ _ _ l3).trans r1)
 have s2:=(e3.1 2).trans ((zQ _ _ l3).trans r2)
 have s3:=(e3.1 3).trans ((zQ _ _ l3).trans r3)
 have s4:=(e3.1 4).trans ((zQ _ _ l3).trans r4)
 have s5:=(e3.1 5).trans ((zQ _ _ l3).trans r5)
 have s6:=(e3.1 6).trans ((zQ _ _ l3).trans r6)
 have sf:=fun j=>(e3.2 j).trans (((bcell bA).2 _ _ l3).trans (rf j))
 have z1:w.heap.size+1+1+1+1<w1.heap.size:=by have:=g1.size;omega
 have GW:Hid (w.grownBy w1 (Value.slice oa os.length oc).ownBlock):=(grown_any (zY (BW.out.trans (bA.mono BW.out.size))) _).trans g1
 have A2:Hid (∀ j,(Value.slice (some ⟨G,0,none⟩) (os.length+1) cap).ownBlock=some j->(Value.slice oa os.length oc).ownBlock=some j\/w.heap.size<=j):=by
  intro j h5
  rcases at1 with h8 | h8
  ·exact .inl (h8.symm.trans h5)
  ·rw [h5] at h8
   simp only [Option.some.injEq] at h8
   exact .inr (by omega)
 have AT:Hid (∀ j,w.heap.size<=j->j<w.heap.size+1+1+1+1->(Value.slice (some ⟨G,0,none⟩) (os.length+1) cap).ownBlock≠some j):=by
  intro j h5 h6 h7
  rcases at1 with h8 | h8
  ·exact nR j h5 (h7.symm.trans h8)
  ·rw [h7] at h8
   simp only [Option.some.injEq] at h8
   omega
 clear hz HZ zA bA g1 e0 e3 k0 k1 k2 k3 k4 k5 k6 kf r0 r1 r2 r3 r4 r5 r6 rf l3 x0 x1 x2 x3 x4 y0 y1 y2 BW hy
 have O1:Hid (OwnI w1 B _ _):=o1
 have P1:Hid (OwnI w1 B _ _):=p1
 clear o1 p1 at1
 go_wp2_with fail
 refine (onward_any _ _ _ _ _ _ _ _ _ _ h0 h1).mono ?_
 rintro e w2 ⟨rfl,b2⟩
 obtain ⟨hc2,hf2⟩:=bcell b2
 have zz:(w1.setCell ⟨w.heap.size,5,none⟩ (.slice (some ⟨G,0,none⟩) (os.length+1) cap)).heap.size=w1.heap.size:=by simp
 have l3:w.heap.size+1+1+1<(w1.setCell ⟨w.heap.size,5,none⟩ (.slice (some ⟨G,0,none⟩) (os.length+1) cap)).heap.size:=by omega
 have gS:=zU (p:=⟨w.heap.size,5,none⟩) (World.grownBy.refl w1 (some w.heap.size)) (.inl rfl) (.slice (some ⟨G,0,none⟩) (os.length+1) cap)
 have e3:=gcell gS (b:=w.heap.size+1+1+1) (by omega) (by simp;omega)
 have t0:=(hc2 _ 0 l3).trans ((e3.1 0).trans s0)
 have t1:=(hc2 _ 1 l3).trans ((e3.1 1).trans s1)
 have t2:=(hc2 _ 2 l3).trans ((e3.1 2).trans s2)
 have t3:=(hc2 _ 3 l3).trans ((e3.1 3).trans s3)
 have t4:=(hc2 _ 4 l3).trans ((e3.1 4).trans s4)
 have t5:=(hc2 _ 5 l3).trans ((e3.1 5).trans s5)
 have t6:=(hc2 _ 6 l3).trans ((e3.1 6).trans s6)
 have tf:=fun j=>(hf2 _ j l3).trans ((e3.2 j).trans (sf j))
 have O2:Hid (OwnI w2 B _ _):=(O1.out.setOther (p:=⟨w.heap.size,5,none⟩) (AT.out _ (by simp) (by simp;omega)) _).below b2
 have P2:Hid (OwnI w2 B _ _):=(P1.out.setOther (p:=⟨w.heap.size,5,none⟩) (fun h=>nR _ (by simp) h.symm) _).below b2
 have G2:Hid (w.grownBy w2 (Value.slice oa os.length oc).ownBlock):=(zU (p:=⟨w.heap.size,5,none⟩) GW.out (.inr (by simp)) _).trans (grown_any (zY b2) _)
 have A3:Hid ((Value.slice (some ⟨G,0,none⟩) (os.length+1) cap).ownBlock≠some (w.heap.size+1+1+1)):=AT.out _ (by omega) (by omega)
 have N3:Hid ((Value.slice oa os.length oc).ownBlock≠some (w.heap.size+1+1+1)):=fun h=>nR _ (by omega) h.symm
 clear b2 hc2 hf2 zz l3 gS e3 s0 s1 s2 s3 s4 s5 s6 sf q0 q1 q2 q3 q4 q5 q6 qf O1 P1 GW AT nR
 go_wp2_with fail
 refine bodyPost_ret (v:=dV (p+1) a b c d (some ⟨G,0,none⟩) (os.length+1) cap code) (by simp [results,Tryz.results154,go_sem,t0,t1,t2,t3,t4,t5,t6]) rfl ⟨_,_,rfl,?_,?_,?_,A2.out⟩
 ·repeat (refine OwnI.setOther ?_ A3.out _)
  exact O2.out
 ·repeat (refine OwnI.setOther ?_ N3.out _)
  exact P2.out
 ·repeat (refine zU ?_ (.inr (by simp;omega)) _)
  exact G2.out
theorem old_frozen {w:World} {b:Nat} (o:Obj) (j:Nat) (h:b<w.heap.size):(w.alloc o).frozen? ⟨b,j,none⟩=w.frozen? ⟨b,j,none⟩:=zI (Below.heap_alloc w o b h)
theorem nextIn_right (b off len cap:Nat) (g:Nat->I5) (k:Nat) (ra oa:Option Addr) (rc oc:Nat) (r0 r1 r2 r3:Int) (os:List Int) (w:World) (hlen:len<=maxLen) (hb:b<w.heap.size) (hI:InsAt w b off len g) (ho:os.length<=1048576) (h1:Sl w ra [r0,r1,r2,r3]) (h2:Sl w oa os) (hk:k<len) (t1:stOkB len (k:Int) [r0,r1,r2,r3] os 0=true) (t2:progOkB g len 4=true):
  Calls Tryz.prog 136 #[.slice (some ⟨b,off,none⟩) len cap,stV k ra 4 rc oa os.length oc 0] w fun e w'=>e=.returned (evV (evK (g k).o) (evP (g k).o (g k).n) (evW (g k).o (g k).a [r0,r1,r2,r3]))/\Below w.heap.size w w':=by
 have HI:Hid (InsAt w b off len g):=hI
 have H1:Hid (Sl w ra [r0,r1,r2,r3]):=h1
 have H2:Hid (Sl w oa os):=h2
 have HL:Hid (len<=maxLen):=hlen
 have hr:=ins_range (right_ins t2 hk)
 have hk':(k:Int)<(len:Int):=by omega
 have hl':(len:Int)<=9223372036854775807:=by have:=HL.out;unfold maxLen at this;omega
 clear hI h1 h2 hlen
 go_enter Tryz.func136,Tryz.ntmps136
 go_wp2_with fail
 refine (implStateOk_any _ _ _ _ _ _ _ _ _ [r0,r1,r2,r3] os _ ho (H1.out.below (by go_grown)) (H2.out.below (by go_grown))).mono ?_
 rintro e w1 ⟨rfl,b1⟩
 have B1:Hid (Below w.heap.size w w1):=below_up (by go_grown) b1 (by simp;omega)
 have y1:w.heap.size+1<w1.heap.size:=by have:=b1.size;simp at this;omega
 have y0:w.heap.size<w1.heap.size:=by omega
 obtain ⟨hc1,hf1⟩:=bcell b1
 clear b1
 go_wp2_with fail
 refine (registersOf_any ra rc [r0,r1,r2,r3] _ (H1.out.below B1.out)).mono ?_
 rintro e w3 ⟨⟨q0,q1,q2,q3,rfl,hq⟩,b3⟩
 have hq':=hq rfl
 simp only [List.cons.injEq,and_true] at hq'
 obtain ⟨rfl,rfl,rfl,rfl⟩:=hq'
 have B3:Hid (Below w.heap.size w w3):=B1.out.trans (b3.mono B1.out.size)
 obtain ⟨hc3,hf3⟩:=bcell b3
 have z1:w.heap.size+1<w3.heap.size:=by have:=b3.size;omega
 have z0:w.heap.size<w3.heap.size:=by omega
 clear b3 B1 hq
 go_wp2_with fail
 have B4:Hid (Below w.heap.size w (w3.alloc (.cells #[.int .i64 r0,.int .i64 r1,.int .i64 r2,.int .i64 r3] 187))):=B3.out.alloc (by omega) _
 generalize hW:w3.alloc (.cells #[.int .i64 r0,.int .i64 r1,.int .i64 r2,.int .i64 r3] 187)=W at *
 have lr:w3.heap.size<W.heap.size:=by rw [<- hW];simp
 have k0:W.cell? ⟨w3.heap.size,0,none⟩=some (.int .i64 r0):=by rw [<- hW];simp
 have k1:W.cell? ⟨w3.heap.size,1,none⟩=some (.int .i64 r1):=by rw [<- hW];simp
 have k2:W.cell? ⟨w3.heap.size,2,none⟩=some (.int .i64 r2):=by rw [<- hW];simp
 have k3:W.cell? ⟨w3.heap.size,3,none⟩=some (.int .i64 r3):=by rw [<- hW];simp
 have s0:W.cell? ⟨w.heap.size,0,none⟩=some (.int .i64 k):=by rw [<- hW,zQ _ _ z0,hc3 _ _ y0,hc1 _ _ (by simp;omega)];simp
 have e0:W.cell? ⟨w.heap.size+1,0,none⟩=some (.int .i64 0):=by rw [<- hW,zQ _ _ z1,hc3 _ _ y1,hc1 _ _ (by simp)];simp
 have e1:W.cell? ⟨w.heap.size+1,1,none⟩=some (.int .i64 0):=by rw [<- hW,zQ _ _ z1,hc3 _ _ y1,hc1 _ _ (by simp)];simp
 have e2:W.cell? ⟨w.heap.size+1,2,none⟩=some (.int .i64 0):=by rw [<- hW,zQ _ _ z1,hc3 _ _ y1,hc1 _ _ (by simp)];simp
 have f0:∀ j,W.frozen? ⟨w.heap.size+1,j,none⟩=false:=fun j=>by rw [<- hW,old_frozen _ _ z1,hf3 _ _ y1,hf1 _ _ (by simp)];simp
 have l0:w.heap.size<W.heap.size:=by omega
 have l1:w.heap.size+1<W.heap.size:=by omega
 have lb:b<W.heap.size:=by omega
 clear hc1 hf1 hc3 hf3 hW B3 y0 y1 z0 z1
 obtain ⟨c0,c1,c2,c3,c4⟩:=HI.out.below B4.out hb k hk
 obtain ⟨⟨o1,o11⟩,-,⟨a0,a3⟩,-⟩:=hr
 first|(go_region_with (first|(go_at_call 132;refine (placeOf_right _ _ _ _ _ _ o1 o11).mono ?_;rintro e w5 ⟨rfl,b5'⟩;have b5:Below W.heap.size W w5:=(Below.refl W.heap.size W).drew.trans b5';obtain ⟨hc5,hf5⟩:=bcell b5;have B5:Hid (Below w.heap.size w w5):=B4.out.trans (b5.mono B4.out.size);have l5:w.heap.size+1<w5.heap.size:=zL l1 b5.size;clear b5 b5')|(go_at_call 145;refine (eventOf_right _ _ _ _ _ _ _ _ _ _ o1 o11 a0 a3).mono ?_;rintro e w6 ⟨rfl,b6⟩;obtain ⟨hc6,hf6⟩:=bcell b6;have B6:Hid (Below w.heap.size w w6):=B5.out.trans (b6.mono B5.out.size);clear b6))) | fail
 all_goals
  go_wp2
  refine bodyPost_ret (v:=evV (evK (g k).o) (evP (g k).o (g k).n) (evW (g k).o (g k).a [r0,r1,r2,r3])) (by simp [results,Tryz.results136,go_sem,hc6,hc5,l5,l1,e0,e1,e2]) rfl ⟨rfl,?_⟩
  have:=B6.out
  go_grown
theorem nextIn_any (b off len cap:Nat) (g:Nat->I5) (p code:Int) (ra oa:Option Addr) (rc oc:Nat) (rs os:List Int) (w:World) (hlen:len<=maxLen) (hb:b<w.heap.size) (hI:InsAt w b off len g) (ho:os.length<=1048576) (h1:Sl w ra rs) (h2:Sl w oa os) (t2:progOkB g len 4=true):
  Calls Tryz.prog 136 #[.slice (some ⟨b,off,none⟩) len cap,stV p ra rs.length rc oa os.length oc code] w fun e w'=>e=.returned (evV (nxK g len p rs os code) (nxP g len p rs os code) (nxW g len p rs os code))/\Below w.heap.size w w':=by
 rcases zK (rightB g len p rs os code) with hr | hr
 ·obtain ⟨h3,h4,rfl⟩:=right_parts hr
  obtain ⟨⟨r0,r1,r2,r3,rfl,_⟩,⟨k,rfl,hk⟩,_⟩:=st_parts h4
  rw [next_right hr]
  exact nextIn_right b off len cap g k ra oa rc oc r0 r1 r2 r3 os w hlen hb hI ho h1 h2 hk h4 h3
 ·rw [next_wrong hr]
  exact nextIn_wrong b off len cap g p code ra oa rc oc rs os w ho h1 h2 t2 hr
