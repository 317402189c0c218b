import Derived.Test.YtkdablcbhhphoaaGreatDoorBk9
import Derived.Test.YtkdablcbhhphoaaGreatDoorBk10
import Derived.Deep.CutRange
namespace Go.Proofs.YtkdablcbhhphoaaGreatDoor
set_option maxRecDepth 100000
set_option maxHeartbeats 1000000
open Go.RowKit
theorem qww (w:World):
  Calls Tryz.prog 169 #[.int .i64 1] w fun e w'=>e=.returned (.func (.func 212) #[] #[])/\Below w.heap.size w w':=by
 go_enter Tryz.func169,Tryz.ntmps169
 go_wp2_with fail
 refine bodyPost_ret (v:=.func (.func 212) #[] #[]) (by simp [results,Tryz.results169,go_sem]) rfl ⟨rfl,?_⟩
 go_grown
theorem qwx (w:World):
  Calls Tryz.prog 169 #[.int .i64 2] w fun e w'=>e=.returned (.func (.func 213) #[] #[])/\Below w.heap.size w w':=by
 go_enter Tryz.func169,Tryz.ntmps169
 go_wp2_with fail
 refine bodyPost_ret (v:=.func (.func 213) #[] #[]) (by simp [results,Tryz.results169,go_sem]) rfl ⟨rfl,?_⟩
 go_grown
theorem qwy (w:World):
  Calls Tryz.prog 169 #[.int .i64 3] w fun e w'=>e=.returned (.func (.func 214) #[] #[])/\Below w.heap.size w w':=by
 go_enter Tryz.func169,Tryz.ntmps169
 go_wp2_with fail
 refine bodyPost_ret (v:=.func (.func 214) #[] #[]) (by simp [results,Tryz.results169,go_sem]) rfl ⟨rfl,?_⟩
 go_grown
theorem qwz (w:World):
  Calls Tryz.prog 169 #[.int .i64 4] w fun e w'=>e=.returned (.func (.func 215) #[] #[])/\Below w.heap.size w w':=by
 go_enter Tryz.func169,Tryz.ntmps169
 go_wp2_with fail
 refine bodyPost_ret (v:=.func (.func 215) #[] #[]) (by simp [results,Tryz.results169,go_sem]) rfl ⟨rfl,?_⟩
 go_grown
theorem qr0 (w:World):
  Calls Tryz.prog 169 #[.int .i64 5] w fun e w'=>e=.returned (.func (.func 216) #[] #[])/\Below w.heap.size w w':=by
 go_enter Tryz.func169,Tryz.ntmps169
 go_wp2_with fail
 refine bodyPost_ret (v:=.func (.func 216) #[] #[]) (by simp [results,Tryz.results169,go_sem]) rfl ⟨rfl,?_⟩
 go_grown
theorem qw0 (w:World):
  Calls Tryz.prog 169 #[.int .i64 6] w fun e w'=>e=.returned (.func (.func 217) #[] #[])/\Below w.heap.size w w':=by
 go_enter Tryz.func169,Tryz.ntmps169
 go_wp2_with fail
 refine bodyPost_ret (v:=.func (.func 217) #[] #[]) (by simp [results,Tryz.results169,go_sem]) rfl ⟨rfl,?_⟩
 go_grown
theorem qw1 (w:World):
  Calls Tryz.prog 169 #[.int .i64 7] w fun e w'=>e=.returned (.func (.func 218) #[] #[])/\Below w.heap.size w w':=by
 go_enter Tryz.func169,Tryz.ntmps169
 go_wp2_with fail
 refine bodyPost_ret (v:=.func (.func 218) #[] #[]) (by simp [results,Tryz.results169,go_sem]) rfl ⟨rfl,?_⟩
 go_grown
theorem qw2 (w:World):
  Calls Tryz.prog 169 #[.int .i64 8] w fun e w'=>e=.returned (.func (.func 219) #[] #[])/\Below w.heap.size w w':=by
 go_enter Tryz.func169,Tryz.ntmps169
 go_wp2_with fail
 refine bodyPost_ret (v:=.func (.func 219) #[] #[]) (by simp [results,Tryz.results169,go_sem]) rfl ⟨rfl,?_⟩
 go_grown
theorem qw3 (w:World):
  Calls Tryz.prog 169 #[.int .i64 9] w fun e w'=>e=.returned (.func (.func 220) #[] #[])/\Below w.heap.size w w':=by
 go_enter Tryz.func169,Tryz.ntmps169
 go_wp2_with fail
 refine bodyPost_ret (v:=.func (.func 220) #[] #[]) (by simp [results,Tryz.results169,go_sem]) rfl ⟨rfl,?_⟩
 go_grown
theorem qok (w:World):
  Calls Tryz.prog 169 #[.int .i64 10] w fun e w'=>e=.returned (.func (.func 221) #[] #[])/\Below w.heap.size w w':=by
 go_enter Tryz.func169,Tryz.ntmps169
 go_wp2_with fail
 refine bodyPost_ret (v:=.func (.func 221) #[] #[]) (by simp [results,Tryz.results169,go_sem]) rfl ⟨rfl,?_⟩
 go_grown
theorem qvm (w:World):
  Calls Tryz.prog 169 #[.int .i64 11] w fun e w'=>e=.returned (.func (.func 222) #[] #[])/\Below w.heap.size w w':=by
 go_enter Tryz.func169,Tryz.ntmps169
 go_wp2_with fail
 refine bodyPost_ret (v:=.func (.func 222) #[] #[]) (by simp [results,Tryz.results169,go_sem]) rfl ⟨rfl,?_⟩
 go_grown
theorem qic (nk np nv k q v:Int) (w:World):
  Calls Tryz.prog 167 #[evV nk np nv,evV k q v] w fun e w'=>e=.returned (.bool (canB nk np nv k q v))/\Below w.heap.size w w':=by
 have he:=fun wx=>qyv k q v nk np nv wx;by_cases c1:nk=3
 case neg=>
  have c1':(nk != 3)=true:=by simpa using c1
  by_cases c2:nk=0
  ·subst c2
   have hv:Hid (canB 0 np nv k q v=false):=by simp [Hid,canB]
   go_enter Tryz.func167,Tryz.ntmps167
   go_wp2_with (first|(go_at_call 211;refine (isNum_any _ _).mono ?_;rintro e w' ⟨rfl,rfl⟩)|(go_at_call 27;refine (isBelow_any _ _ _).mono ?_;rintro e w' ⟨rfl,rfl⟩))
   refine bodyPost_ret (v:=.bool (false)) (by simp [results,Tryz.results167,go_sem]) rfl ⟨by rw [hv.out],?_⟩
   go_grown
  ·have c2':(nk != 0)=true:=by simpa using c2
   have hv:Hid (canB nk np nv k q v=qel k q v nk np nv):=by simp [Hid,canB,qel,c1,c2']
   clear c1 c2
   go_enter Tryz.func167,Tryz.ntmps167
   go_wp2_with (first|(go_at_call 211;refine (isNum_any _ _).mono ?_;rintro e w' ⟨rfl,rfl⟩)|(go_at_call 27;refine (isBelow_any _ _ _).mono ?_;rintro e w' ⟨rfl,rfl⟩))
   refine bodyPost_ret (v:=.bool (qel k q v nk np nv)) (by simp [results,Tryz.results167,go_sem]) rfl ⟨by rw [hv.out],?_⟩
   go_grown
 subst c1;by_cases c2:k=3
 case neg=>
  have c2':(k != 3)=true:=by simpa using c2
  have hv:Hid (canB 3 np nv k q v=false):=by simp [Hid,canB,c2]
  clear c2
  go_enter Tryz.func167,Tryz.ntmps167
  go_wp2_with (first|(go_at_call 211;refine (isNum_any _ _).mono ?_;rintro e w' ⟨rfl,rfl⟩)|(go_at_call 27;refine (isBelow_any _ _ _).mono ?_;rintro e w' ⟨rfl,rfl⟩))
  refine bodyPost_ret (v:=.bool (false)) (by simp [results,Tryz.results167,go_sem]) rfl ⟨by rw [hv.out],?_⟩
  go_grown
 subst c2
 rcases zK (numB v) with c3 | c3
 case inr=>
  have hv:Hid (canB 3 np nv 3 q v=false):=by simp [Hid,canB,c3]
  have c3':inB v (-1000000000) 1000000000=false:=c3;clear c3
  go_enter Tryz.func167,Tryz.ntmps167
  go_wp2_with (first|(go_at_call 211;refine (isNum_any _ _).mono ?_;rintro e w' ⟨rfl,rfl⟩)|(go_at_call 27;refine (isBelow_any _ _ _).mono ?_;rintro e w' ⟨rfl,rfl⟩))
  refine bodyPost_ret (v:=.bool (false)) (by simp [results,Tryz.results167,go_sem]) rfl ⟨by rw [hv.out],?_⟩
  go_grown
 by_cases c4:np=9
 ·subst c4
  have hv:Hid (canB 3 9 nv 3 q v=belB q 4):=by simp [Hid,canB,c3]
  have c3':inB v (-1000000000) 1000000000=true:=c3;clear c3
  go_enter Tryz.func167,Tryz.ntmps167
  go_wp2_with (first|(go_at_call 211;refine (isNum_any _ _).mono ?_;rintro e w' ⟨rfl,rfl⟩)|(go_at_call 27;refine (isBelow_any _ _ _).mono ?_;rintro e w' ⟨rfl,rfl⟩))
  refine bodyPost_ret (v:=.bool (belB q 4)) (by simp [results,Tryz.results167,go_sem]) rfl ⟨by rw [hv.out],?_⟩
  go_grown
 ·have c4':(np == 9)=false:=by simpa using c4
  have hv:Hid (canB 3 np nv 3 q v=(q == np)):=by simp [Hid,canB,c3,c4]
  have c3':inB v (-1000000000) 1000000000=true:=c3;clear c3 c4
  go_enter Tryz.func167,Tryz.ntmps167
  go_wp2_with (first|(go_at_call 211;refine (isNum_any _ _).mono ?_;rintro e w' ⟨rfl,rfl⟩)|(go_at_call 27;refine (isBelow_any _ _ _).mono ?_;rintro e w' ⟨rfl,rfl⟩))
  refine bodyPost_ret (v:=.bool (q == np)) (by simp [results,Tryz.results167,go_sem]) rfl ⟨by rw [hv.out],?_⟩
  go_grown
open Go.Sort
theorem qhu (a b c d a' b' c' d':Int) (w:World):(binOp .neq 203 (regV a b c d) (regV a' b' c' d')).run Tryz.prog w=.ok (.bool (!qn9 a b c d a' b' c' d')) w:=by
 have h:=qkv a b c d a' b' c' d' w;simp only [binOp,Sem.run_bind,Sem.run_pure] at h ⊢
 revert h
 generalize Sem.run Tryz.prog (Op.equal 203 (regV a b c d) (regV a' b' c' d')) w=r;cases r <;> simp (config:={ contextual:=true }) [Result.andThen]
theorem qq9 {w W:World} {v0:Int} {v1:Int} {v2:Int} {v3:Int} {v4:Int} {v5:Option Addr} {v6:Nat} {v7:Nat} {v8:Int} {v9:Int} {v10:Int} {v11:Int} {v12:Int} {v13:Int} {v14:Option Addr} {v15:Nat} {v16:Nat} {v17:Int} (hW:(((w.alloc (oQ2 v0 v1 v2 v3 v4 v5 v6 v7 v8)).alloc (oQ2 v9 v10 v11 v12 v13 v14 v15 v16 v17)).alloc (zQ1))=W):W.cell? ⟨w.heap.size,0,none⟩=some (.int .i64 v0)/\W.cell? ⟨w.heap.size,1,none⟩=some (.int .i64 v1)/\W.cell? ⟨w.heap.size,2,none⟩=some (.int .i64 v2)/\W.cell? ⟨w.heap.size,3,none⟩=some (.int .i64 v3)/\W.cell? ⟨w.heap.size,4,none⟩=some (.int .i64 v4)/\W.cell? ⟨w.heap.size,5,none⟩=some (.slice v5 v6 v7)/\W.cell? ⟨w.heap.size,6,none⟩=some (.int .i64 v8)/\W.cell? ⟨w.heap.size+1,0,none⟩=some (.int .i64 v9)/\W.cell? ⟨w.heap.size+1,1,none⟩=some (.int .i64 v10)/\W.cell? ⟨w.heap.size+1,2,none⟩=some (.int .i64 v11)/\W.cell? ⟨w.heap.size+1,3,none⟩=some (.int .i64 v12)/\W.cell? ⟨w.heap.size+1,4,none⟩=some (.int .i64 v13)/\W.cell? ⟨w.heap.size+1,5,none⟩=some (.slice v14 v15 v16)/\W.cell? ⟨w.heap.size+1,6,none⟩=some (.int .i64 v17)/\W.cell? ⟨w.heap.size+1+1,0,none⟩=some (.int .i64 0)/\W.cell? ⟨w.heap.size+1+1,1,none⟩=some (.int .i64 0)/\W.cell? ⟨w.heap.size+1+1,2,none⟩=some (.int .i64 0)/\W.cell? ⟨w.heap.size+1+1,3,none⟩=some (.int .i64 0)/\W.cell? ⟨w.heap.size+1+1,4,none⟩=some (.int .i64 0)/\W.cell? ⟨w.heap.size+1+1,5,none⟩=some (.slice none 0 0)/\W.cell? ⟨w.heap.size+1+1,6,none⟩=some (.int .i64 0)/\(∀ j,W.frozen? ⟨w.heap.size,j,none⟩=false)/\(∀ j,W.frozen? ⟨w.heap.size+1,j,none⟩=false)/\(∀ j,W.frozen? ⟨w.heap.size+1+1,j,none⟩=false)/\w.heap.size+1+1<W.heap.size/\Below w.heap.size w W:=by
 subst hW;exact ⟨(zQ _ _ (by simp<;>omega)).trans ((zQ _ _ (by simp)).trans (by simp)),(zQ _ _ (by simp<;>omega)).trans ((zQ _ _ (by simp)).trans (by simp)),(zQ _ _ (by simp<;>omega)).trans ((zQ _ _ (by simp)).trans (by simp)),(zQ _ _ (by simp<;>omega)).trans ((zQ _ _ (by simp)).trans (by simp)),(zQ _ _ (by simp<;>omega)).trans ((zQ _ _ (by simp)).trans (by simp)),(zQ _ _ (by simp<;>omega)).trans ((zQ _ _ (by simp)).trans (by simp)),(zQ _ _ (by simp<;>omega)).trans ((zQ _ _ (by simp)).trans (by simp)),(zQ _ _ (by simp)).trans (zV _ _ _ 0 (by simp)),(zQ _ _ (by simp)).trans (zV _ _ _ 1 (by simp)),(zQ _ _ (by simp)).trans (zV _ _ _ 2 (by simp)),(zQ _ _ (by simp)).trans (zV _ _ _ 3 (by simp)),(zQ _ _ (by simp)).trans (zV _ _ _ 4 (by simp)),(zQ _ _ (by simp)).trans (zV _ _ _ 5 (by simp)),(zQ _ _ (by simp)).trans (zV _ _ _ 6 (by simp)),zV _ _ _ 0 (by simp),zV _ _ _ 1 (by simp),zV _ _ _ 2 (by simp),zV _ _ _ 3 (by simp),zV _ _ _ 4 (by simp),zV _ _ _ 5 (by simp),zV _ _ _ 6 (by simp),fun j=>((qap (zS _ _)).2 _ _ (by simp<;>omega)).trans (((qap (zS _ _)).2 _ _ (by simp)).trans (yA _ _ _ j rfl)),fun j=>((qap (zS _ _)).2 _ _ (by simp)).trans (yA _ _ _ j (by simp)),fun j=>yA _ _ _ j (by simp),by simp,by go_grown⟩
theorem qof (p a b c d:Int) (oa:Option Addr) (on oc:Nat) (code:Int) (p' a' b' c' d':Int) (oa':Option Addr) (on' oc':Nat) (code':Int) (n:Nat) (w:World) (hr:qcy [a',b',c',d']=false):
  Calls Tryz.prog 170 #[dV p a b c d oa on oc code,dV p' a' b' c' d' oa' on' oc' code',.int .i64 n] w fun e w'=>e=.returned (dV p a b c d oa on oc 2)/\Below w.heap.size w w':=by
 have he:∀ wx,(binOp .neq 203 (regV a' b' c' d') (regV (qbj a') (qbj b') (qbj c') (qbj d'))).run Tryz.prog wx=.ok (.bool true) wx:=fun wx=>by rw [qhu,qb8,hr];rfl
 go_enter Tryz.func170,Tryz.ntmps170
 go_wp2_with fail
 generalize hW:(((w.alloc (oQ2 p a b c d oa on oc code)).alloc (oQ2 p' a' b' c' d' oa' on' oc' code')).alloc (zQ1))=W at *;obtain ⟨k0,k1,k2,k3,k4,k5,k6,x0,x1,x2,x3,x4,x5,x6,r0,r1,r2,r3,r4,r5,r6,kf,xf,rf,l2,BW'⟩:=qq9 hW;have BW:Hid (Below w.heap.size w W):=BW';clear BW';clear hW;have l0:w.heap.size<W.heap.size:=by omega
 have l1:w.heap.size+1<W.heap.size:=by omega
 have x0':=cell_regrown x0;have x1':=cell_regrown x1;have x2':=cell_regrown x2;have x3':=cell_regrown x3;have x4':=cell_regrown x4;have x5':=cell_regrown x5;have x6':=cell_regrown x6;refine wp_region_quiet_below (by kernel_rfl) (by kernel_rfl) ?_
 repeat (quiet_step (first|(go_at_call 208;exact Calls.regrown_of (qc0 _ _ _ _ _))))
 refine wpQuiet_nil ?_;intro _ hw';obtain ⟨⟨dq,osq⟩,hw''⟩:=hw';subst hw'';have b3:=below_regrown W dq osq;have B3:Hid (Below w.heap.size w (grow (redrawn W dq) osq)):=BW.out.trans (b3.mono BW.out.size);obtain ⟨hc3,hf3⟩:=qap b3;generalize grow (redrawn W dq) osq=w3 at *;clear b3 x0' x1' x2' x3' x4' x5' x6' he BW hr;go_wp2_with (go_at_call 27;refine (isBelow_any _ _ _).mono ?_;rintro e w' ⟨rfl,rfl⟩)
 refine bodyPost_ret (v:=dV p a b c d oa on oc 2) (by simp [results,Tryz.results170,go_sem,hc3,l2,r0,r1,r2,r3,r4,r5,r6]) rfl ⟨rfl,?_⟩;have:=B3.out
 go_grown
theorem qod (p a b c d:Int) (oa:Option Addr) (on oc:Nat) (code:Int) (p' a' b' c' d':Int) (oa':Option Addr) (on' oc':Nat) (code':Int) (n:Nat) (w:World) (hr:qcy [a',b',c',d']=true) (hn:(60:Int)<(on':Int)):
  Calls Tryz.prog 170 #[dV p a b c d oa on oc code,dV p' a' b' c' d' oa' on' oc' code',.int .i64 n] w fun e w'=>e=.returned (dV p a b c d oa on oc 2)/\Below w.heap.size w w':=by
 have he:∀ wx,(binOp .neq 203 (regV a' b' c' d') (regV (qbj a') (qbj b') (qbj c') (qbj d'))).run Tryz.prog wx=.ok (.bool false) wx:=fun wx=>by rw [qhu,qb8,hr];rfl
 go_enter Tryz.func170,Tryz.ntmps170
 go_wp2_with fail
 generalize hW:(((w.alloc (oQ2 p a b c d oa on oc code)).alloc (oQ2 p' a' b' c' d' oa' on' oc' code')).alloc (zQ1))=W at *;obtain ⟨k0,k1,k2,k3,k4,k5,k6,x0,x1,x2,x3,x4,x5,x6,r0,r1,r2,r3,r4,r5,r6,kf,xf,rf,l2,BW'⟩:=qq9 hW;have BW:Hid (Below w.heap.size w W):=BW';clear BW';clear hW;have l0:w.heap.size<W.heap.size:=by omega
 have l1:w.heap.size+1<W.heap.size:=by omega
 have x0':=cell_regrown x0;have x1':=cell_regrown x1;have x2':=cell_regrown x2;have x3':=cell_regrown x3;have x4':=cell_regrown x4;have x5':=cell_regrown x5;have x6':=cell_regrown x6;refine wp_region_quiet_below (by kernel_rfl) (by kernel_rfl) ?_
 repeat (quiet_step (first|(go_at_call 208;exact Calls.regrown_of (qc0 _ _ _ _ _))))
 refine wpQuiet_nil ?_;intro _ hw';obtain ⟨⟨dq,osq⟩,hw''⟩:=hw';subst hw'';have b3:=below_regrown W dq osq;have B3:Hid (Below w.heap.size w (grow (redrawn W dq) osq)):=BW.out.trans (b3.mono BW.out.size);obtain ⟨hc3,hf3⟩:=qap b3;generalize grow (redrawn W dq) osq=w3 at *;clear b3 x0' x1' x2' x3' x4' x5' x6' he BW hr;go_wp2_with (go_at_call 27;refine (isBelow_any _ _ _).mono ?_;rintro e w' ⟨rfl,rfl⟩)
 refine bodyPost_ret (v:=dV p a b c d oa on oc 2) (by simp [results,Tryz.results170,go_sem,hc3,l2,r0,r1,r2,r3,r4,r5,r6]) rfl ⟨rfl,?_⟩;have:=B3.out
 go_grown
theorem qqr (p a b c d:Int) (oa:Option Addr) (on oc:Nat) (code:Int) (p' a' b' c' d':Int) (oa':Option Addr) (on' oc':Nat) (code':Int) (n:Nat) (w:World) (hr:qcy [a',b',c',d']=true) (hn:¬ (60:Int)<(on':Int)) (hp:belB p' n=false):
  Calls Tryz.prog 170 #[dV p a b c d oa on oc code,dV p' a' b' c' d' oa' on' oc' code',.int .i64 n] w fun e w'=>e=.returned (dV p a' b' c' d' oa' on' oc' 2)/\Below w.heap.size w w':=by
 have he:∀ wx,(binOp .neq 203 (regV a' b' c' d') (regV (qbj a') (qbj b') (qbj c') (qbj d'))).run Tryz.prog wx=.ok (.bool false) wx:=fun wx=>by rw [qhu,qb8,hr];rfl
 go_enter Tryz.func170,Tryz.ntmps170
 go_wp2_with fail
 generalize hW:(((w.alloc (oQ2 p a b c d oa on oc code)).alloc (oQ2 p' a' b' c' d' oa' on' oc' code')).alloc (zQ1))=W at *;obtain ⟨k0,k1,k2,k3,k4,k5,k6,x0,x1,x2,x3,x4,x5,x6,r0,r1,r2,r3,r4,r5,r6,kf,xf,rf,l2,BW'⟩:=qq9 hW;have BW:Hid (Below w.heap.size w W):=BW';clear BW';clear hW;have l0:w.heap.size<W.heap.size:=by omega
 have l1:w.heap.size+1<W.heap.size:=by omega
 have x0':=cell_regrown x0;have x1':=cell_regrown x1;have x2':=cell_regrown x2;have x3':=cell_regrown x3;have x4':=cell_regrown x4;have x5':=cell_regrown x5;have x6':=cell_regrown x6;refine wp_region_quiet_below (by kernel_rfl) (by kernel_rfl) ?_
 repeat (quiet_step (first|(go_at_call 208;exact Calls.regrown_of (qc0 _ _ _ _ _))))
 refine wpQuiet_nil ?_;intro _ hw';obtain ⟨⟨dq,osq⟩,hw''⟩:=hw';subst hw'';have b3:=below_regrown W dq osq;have B3:Hid (Below w.heap.size w (grow (redrawn W dq) osq)):=BW.out.trans (b3.mono BW.out.size);obtain ⟨hc3,hf3⟩:=qap b3;generalize grow (redrawn W dq) osq=w3 at *;clear b3 x0' x1' x2' x3' x4' x5' x6' he BW hr;go_wp2_with (go_at_call 27;refine (isBelow_any _ _ _).mono ?_;rintro e w' ⟨rfl,rfl⟩)
 refine bodyPost_ret (v:=dV p a' b' c' d' oa' on' oc' 2) (by simp [results,Tryz.results170,go_sem,hc3,l2,r0,r1,r2,r3,r4,r5,r6]) rfl ⟨rfl,?_⟩;have:=B3.out
 go_grown
theorem qtx (p a b c d:Int) (oa:Option Addr) (on oc:Nat) (code:Int) (p' a' b' c' d':Int) (oa':Option Addr) (on' oc':Nat) (code':Int) (n:Nat) (w:World) (hr:qcy [a',b',c',d']=true) (hn:¬ (60:Int)<(on':Int)) (hp:belB p' n=true):
  Calls Tryz.prog 170 #[dV p a b c d oa on oc code,dV p' a' b' c' d' oa' on' oc' code',.int .i64 n] w fun e w'=>e=.returned (dV p' a' b' c' d' oa' on' oc' code')/\Below w.heap.size w w':=by
 have he:∀ wx,(binOp .neq 203 (regV a' b' c' d') (regV (qbj a') (qbj b') (qbj c') (qbj d'))).run Tryz.prog wx=.ok (.bool false) wx:=fun wx=>by rw [qhu,qb8,hr];rfl
 go_enter Tryz.func170,Tryz.ntmps170
 go_wp2_with fail
 generalize hW:(((w.alloc (oQ2 p a b c d oa on oc code)).alloc (oQ2 p' a' b' c' d' oa' on' oc' code')).alloc (zQ1))=W at *;obtain ⟨k0,k1,k2,k3,k4,k5,k6,x0,x1,x2,x3,x4,x5,x6,r0,r1,r2,r3,r4,r5,r6,kf,xf,rf,l2,BW'⟩:=qq9 hW;have BW:Hid (Below w.heap.size w W):=BW';clear BW';clear hW;have l0:w.heap.size<W.heap.size:=by omega
 have l1:w.heap.size+1<W.heap.size:=by omega
 have x0':=cell_regrown x0;have x1':=cell_regrown x1;have x2':=cell_regrown x2;have x3':=cell_regrown x3;have x4':=cell_regrown x4;have x5':=cell_regrown x5;have x6':=cell_regrown x6;refine wp_region_quiet_below (by kernel_rfl) (by kernel_rfl) ?_
 repeat (quiet_step (first|(go_at_call 208;exact Calls.regrown_of (qc0 _ _ _ _ _))))
 refine wpQuiet_nil ?_;intro _ hw';obtain ⟨⟨dq,osq⟩,hw''⟩:=hw';subst hw'';have b3:=below_regrown W dq osq;have B3:Hid (Below w.heap.size w (grow (redrawn W dq) osq)):=BW.out.trans (b3.mono BW.out.size);obtain ⟨hc3,hf3⟩:=qap b3;generalize grow (redrawn W dq) osq=w3 at *;clear b3 x0' x1' x2' x3' x4' x5' x6' he BW hr;go_wp2_with (go_at_call 27;refine (isBelow_any _ _ _).mono ?_;rintro e w' ⟨rfl,rfl⟩)
 refine bodyPost_ret (v:=dV p' a' b' c' d' oa' on' oc' code') (by simp [results,Tryz.results170,go_sem,hc3,l2,r0,r1,r2,r3,r4,r5,r6]) rfl ⟨rfl,?_⟩;have:=B3.out
 go_grown
def qv2 (w:World) (B:Nat) (v0:Value) (os:List Int) (p' a' b' c' d':Int) (os':List Int) (code':Int) (e:Ending) (w':World):Prop:=
 ∃ oa' oc',e=.returned (dV p' a' b' c' d' oa' os'.length oc' code')/\OwnI w' B (.slice oa' os'.length oc') os'/\OwnI w' B v0 os/\w.grownBy w' v0.ownBlock/\∀ j,(Value.slice oa' os'.length oc').ownBlock=some j->v0.ownBlock=some j\/w.heap.size<=j
theorem qii {w w':World} {row:Option Nat} {B:Nat} (h:w.grownBy w' row) (hr:∀ j,row=some j->B<=j) (hB:B<=w.heap.size):Below B w w':=
 ⟨h.os,h.tape,h.output,h.size,fun k hk=>h.block k (by omega) (fun e=>by have:=hr k e.symm;omega)⟩
structure DC (w:World) (N:Nat) (p a b c d:Int) (o:Option Addr) (n m:Nat) (code:Int):Prop where
 d0:w.cell? ⟨N,0,none⟩=some (.int .i64 p)
 d1:w.cell? ⟨N,1,none⟩=some (.int .i64 a)
 d2:w.cell? ⟨N,2,none⟩=some (.int .i64 b)
 d3:w.cell? ⟨N,3,none⟩=some (.int .i64 c)
 d4:w.cell? ⟨N,4,none⟩=some (.int .i64 d)
 d5:w.cell? ⟨N,5,none⟩=some (.slice o n m)
 d6:w.cell? ⟨N,6,none⟩=some (.int .i64 code)
theorem DC.kept {w w':World} {N:Nat} {p a b c d:Int} {o:Option Addr} {n m:Nat} {code:Int} (h:DC w N p a b c d o n m code) (hb:w'.heap[N]? = w.heap[N]?):DC w' N p a b c d o n m code:=
 ⟨(zH hb).trans h.d0,(zH hb).trans h.d1,(zH hb).trans h.d2,(zH hb).trans h.d3,(zH hb).trans h.d4,(zH hb).trans h.d5,(zH hb).trans h.d6⟩
theorem DC.lt {w:World} {N:Nat} {p a b c d:Int} {o:Option Addr} {n m:Nat} {code:Int} (h:DC w N p a b c d o n m code):N<w.heap.size:=zJ w _ h.d0
theorem DC.new (w:World) (p a b c d:Int) (o:Option Addr) (n m:Nat) (code:Int) (t:TypeId):DC (w.alloc (.cells #[.int .i64 p,.int .i64 a,.int .i64 b,.int .i64 c,.int .i64 d,.slice o n m,.int .i64 code] t)) w.heap.size p a b c d o n m code:=
 ⟨zV _ _ _ 0 rfl,zV _ _ _ 1 rfl,zV _ _ _ 2 rfl,zV _ _ _ 3 rfl,zV _ _ _ 4 rfl,zV _ _ _ 5 rfl,zV _ _ _ 6 rfl⟩
theorem qyx (w:World) (N:Nat) (v0 v1 v2 v3 v4 v5 v6:Value):w.grownBy (((((((w.setCell ⟨N,0,none⟩ v0).setCell ⟨N,1,none⟩ v1).setCell ⟨N,2,none⟩ v2).setCell ⟨N,3,none⟩ v3).setCell ⟨N,4,none⟩ v4).setCell ⟨N,5,none⟩ v5).setCell ⟨N,6,none⟩ v6) (some N):=by
 repeat (refine zU ?_ (.inl rfl) _)
 exact World.grownBy.refl _ _
theorem DC.put {w:World} {N:Nat} {p a b c d:Int} {o:Option Addr} {n m:Nat} {code:Int} (h:DC w N p a b c d o n m code) (p' a' b' c' d':Int) (o':Option Addr) (n' m':Nat) (code':Int):
  DC (((((((w.setCell ⟨N,0,none⟩ (.int .i64 p')).setCell ⟨N,1,none⟩ (.int .i64 a')).setCell ⟨N,2,none⟩ (.int .i64 b')).setCell ⟨N,3,none⟩ (.int .i64 c')).setCell ⟨N,4,none⟩ (.int .i64 d')).setCell ⟨N,5,none⟩ (.slice o' n' m')).setCell ⟨N,6,none⟩ (.int .i64 code')) N p' a' b' c' d' o' n' m' code':=by
 obtain ⟨d0,d1,d2,d3,d4,d5,d6⟩:=h;exact ⟨by go_cell,by go_cell,by go_cell,by go_cell,by go_cell,by go_cell,by go_cell⟩
def qgq (w:World) (N5 B:Nat) (k:Int) (ra oa:Option Addr) (rc oc:Nat) (a1 a2 a3 a4:Int) (os:List Int) (ek eq ev:Int) (o1:Option Addr) (c1:Nat) (p' b1 b2 b3 b4:Int) (os':List Int) (code':Int) (wx:World) (N:Nat):Prop:=
 qay wx w.heap.size (.int .i64 k) (.slice ra 4 rc) (.slice oa os.length oc) (.int .i64 0) ek eq ev/\DC wx N5 k a1 a2 a3 a4 o1 os.length c1 0/\(∃ o2 c2,DC wx N p' b1 b2 b3 b4 o2 os'.length c2 code'/\OwnI wx B (.slice o2 os'.length c2) os')/\OwnI wx B (.slice o1 os.length c1) os/\Below w.heap.size w wx
theorem qgq.of_alloc {w:World} {N5 B:Nat} {k:Int} {ra oa:Option Addr} {rc oc:Nat} {a1 a2 a3 a4:Int} {os:List Int} {ek eq ev:Int} {o1:Option Addr} {c1:Nat} {p' b1 b2 b3 b4:Int} {os':List Int} {code':Int} {w8:World} {o2:Option Addr} {c2:Nat} (X8:qay w8 w.heap.size (.int .i64 k) (.slice ra 4 rc) (.slice oa os.length oc) (.int .i64 0) ek eq ev) (Y8:DC w8 N5 k a1 a2 a3 a4 o1 os.length c1 0) (N8:OwnI w8 B (.slice o2 os'.length c2) os') (M8:OwnI w8 B (.slice o1 os.length c1) os) (B8:Below w.heap.size w w8) (t:TypeId):
  qgq w N5 B k ra oa rc oc a1 a2 a3 a4 os ek eq ev o1 c1 p' b1 b2 b3 b4 os' code' (w8.alloc (.cells #[.int .i64 p',.int .i64 b1,.int .i64 b2,.int .i64 b3,.int .i64 b4,.slice o2 os'.length c2,.int .i64 code'] t)) w8.heap.size:=by
 have ba:=zS w8 (.cells #[.int .i64 p',.int .i64 b1,.int .i64 b2,.int .i64 b3,.int .i64 b4,.slice o2 os'.length c2,.int .i64 code'] t);exact ⟨X8.below ba,Y8.kept (ba.block N5 Y8.lt),⟨o2,c2,DC.new w8 _ _ _ _ _ _ _ _ _ _,N8.below ba⟩,M8.below ba,B8.trans (ba.mono B8.size)⟩
theorem qgq.of_put {w:World} {N5 B:Nat} {k:Int} {ra oa:Option Addr} {rc oc:Nat} {a1 a2 a3 a4:Int} {os:List Int} {ek eq ev:Int} {o1:Option Addr} {c1:Nat} {p' b1 b2 b3 b4:Int} {os':List Int} {code':Int} {w8:World} {o2:Option Addr} {c2 N:Nat} (X8:qay w8 w.heap.size (.int .i64 k) (.slice ra 4 rc) (.slice oa os.length oc) (.int .i64 0) ek eq ev) (Y8:DC w8 N5 k a1 a2 a3 a4 o1 os.length c1 0) (N8:OwnI w8 B (.slice o2 os'.length c2) os') (M8:OwnI w8 B (.slice o1 os.length c1) os) (B8:Below w.heap.size w w8)
  (hN:N5<N) (h5:w.heap.size+1+1<N5) (hZ:DC w8 N 0 0 0 0 0 none 0 0 0) (nM:∀ j,(Value.slice o1 os.length c1).ownBlock=some j->j≠N) (nN:∀ j,(Value.slice o2 os'.length c2).ownBlock=some j->j≠N):
  qgq w N5 B k ra oa rc oc a1 a2 a3 a4 os ek eq ev o1 c1 p' b1 b2 b3 b4 os' code' (((((((w8.setCell ⟨N,0,none⟩ (.int .i64 p')).setCell ⟨N,1,none⟩ (.int .i64 b1)).setCell ⟨N,2,none⟩ (.int .i64 b2)).setCell ⟨N,3,none⟩ (.int .i64 b3)).setCell ⟨N,4,none⟩ (.int .i64 b4)).setCell ⟨N,5,none⟩ (.slice o2 os'.length c2)).setCell ⟨N,6,none⟩ (.int .i64 code')) N:=by
 have gz:=qyx w8 N (.int .i64 p') (.int .i64 b1) (.int .i64 b2) (.int .i64 b3) (.int .i64 b4) (.slice o2 os'.length c2) (.int .i64 code');have l8:=Y8.lt;refine ⟨?_,?_,⟨o2,c2,?_,?_⟩,?_,?_⟩
 ·exact X8.kept fun j h1 h2=>gz.block j (by omega) (by simp;omega)
 ·exact Y8.kept (gz.block N5 (by omega) (by simp;omega))
 ·exact hZ.put _ _ _ _ _ _ _ _ _
 ·repeat (refine OwnI.setOther ?_ (fun e=>nN _ e rfl) _)
  exact N8
 ·repeat (refine OwnI.setOther ?_ (fun e=>nM _ e rfl) _)
  exact M8
 ·exact B8.trans (qii gz (fun j hj=>by simp at hj;omega) B8.size)
def qas (len:Nat) (p a b c d:Int) (os:List Int) (p' a' b' c' d':Int) (os':List Int) (code':Int):S4:=
 if qcy [a',b',c',d']=false\/(60:Int)<(os'.length:Int) then ⟨p,[a,b,c,d],os,2⟩ else if belB p' len=false then ⟨p,[a',b',c',d'],os',2⟩ else ⟨p',[a',b',c',d'],os',code'⟩
theorem qxw (b off len cap:Nat) (g:Nat->I5) (p code:Int) (ra oa:Option Addr) (rc oc:Nat) (rs os:List Int) (ek eq ev:Int) (w:World) (hlen:len<=maxLen) (hb:b<w.heap.size) (hI:qan w b off len g) (hr:rs.length<=1048576) (ho:os.length<=1048576) (h1:Sl w ra rs) (h2:Sl w oa os) (hD:canB (nxK g len p rs os code) (nxP g len p rs os code) (nxW g len p rs os code) ek eq ev=false) (hP:qac g len 4=true):
  Calls Tryz.prog 113 #[.slice (some ⟨b,off,none⟩) len cap,stV p ra rs.length rc oa os.length oc code,evV ek eq ev] w (qc9 w ⟨p,rs,os,code⟩ false):=by
 have HI:Hid (qan w b off len g):=hI;have H1:Hid (Sl w ra rs):=h1;have H2:Hid (Sl w oa os):=h2;have HL:Hid (len<=maxLen):=hlen;have HP:Hid (qac g len 4=true):=hP;clear hI h1 h2 hlen hP
 go_enter Tryz.func113,Tryz.ntmps113
 go_wp2_with fail
 have X:=qay.new w (.int .i64 (p)) (.slice ra rs.length rc) (.slice oa os.length oc) (.int .i64 code) ek eq ev 142 86 142
 have BW:Hid (Below w.heap.size w (((w.alloc (oQ1 p ra rs.length rc oa os.length oc code)).alloc (oQ0 ek eq ev)).alloc (zQ0))):=by
  show Below _ _ _
  go_grown
 generalize (((w.alloc (oQ1 p ra rs.length rc oa os.length oc code)).alloc (oQ0 ek eq ev)).alloc (zQ0))=W at *;have HX:Hid (qay W w.heap.size (.int .i64 (p)) (.slice ra rs.length rc) (.slice oa os.length oc) (.int .i64 code) ek eq ev):=X;have l2:=X.lt;obtain ⟨p0,p1,p2,p3,e0,e1,e2,r0,r1,r2,r3,rf⟩:=X;have p0':=cell_regrown p0;have p1':=cell_regrown p1;have p2':=cell_regrown p2;have p3':=cell_regrown p3;have e0':=cell_regrown e0;have e1':=cell_regrown e1;have e2':=cell_regrown e2;have HB':Hid (∀ d os',Below w.heap.size w (grow (redrawn W d) os')):=fun d os'=>BW.out.trans ((below_regrown W d os').mono BW.out.size);clear p0 p1 p2 p3 e0 e1 e2 r0 r1 r2 r3 rf;refine wp_region_quiet_below (by kernel_rfl) (by kernel_rfl) ?_
 repeat (quiet_step (first|(go_at_call 109;exact Calls.regrown_of (qj3 b off len cap g (p) code ra oa rc oc rs os _ HL.out (zL hb (HB'.out _ _).size) (HI.out.below (HB'.out _ _) hb) ho (H1.out.below (HB'.out _ _)) (H2.out.below (HB'.out _ _)) HP.out))|(go_at_call 167;exact Calls.regrown_of (qic _ _ _ _ _ _ _))))
 refine wpQuiet_nil ?_;intro _ hw';obtain ⟨⟨dq,osq⟩,hw''⟩:=hw';subst hw'';have b3:=below_regrown W dq osq;have B3:Hid (Below w.heap.size w (grow (redrawn W dq) osq)):=BW.out.trans (b3.mono BW.out.size);have X:=HX.out.below b3;have l3:=X.lt;generalize grow (redrawn W dq) osq=w3 at *;clear b3 p0' p1' p2' p3' e0' e1' e2' BW HB' l2 HX;obtain ⟨p0,p1,p2,p3,e0,e1,e2,r0,r1,r2,r3,rf⟩:=X;go_wp2_with fail
 refine (qfg p code ra oa rc oc rs os _ hr ho (H1.out.below B3.out) (H2.out.below B3.out)).mono ?_;rintro e w4 ⟨v,rfl,o4,b4⟩;obtain ⟨ra2,rc2,oa2,oc2,rfl,-,-⟩:=o4.read;obtain ⟨hc4,hf4⟩:=qap b4;have O4:Hid (qag w4 w3.heap.size (stV p ra2 rs.length rc2 oa2 os.length oc2 code) p rs os code):=o4;have B4:Hid (Below w.heap.size w w4):=B3.out.trans (b4.mono B3.out.size);clear o4 b4;go_wp2;refine bodyPost_ret (v:=.tuple #[stV p ra2 rs.length rc2 oa2 os.length oc2 code,.bool false]) (by simp [results,Tryz.results113,go_sem,hc4,l3,r0,r1,r2,r3]) rfl ⟨_,rfl,?_,?_⟩
 ·exact qag.put4 (B':=w3.heap.size) O4.out l3 (by omega)
 ·have:=B4.out
  go_grown
theorem qqq (p a b c d:Int) (oa:Option Addr) (oc:Nat) (os:List Int) (code p' a' b' c' d':Int) (oa':Option Addr) (oc':Nat) (os':List Int) (code':Int) (n B:Nat) (w:World) (h1:OwnI w B (.slice oa os.length oc) os) (h2:OwnI w B (.slice oa' os'.length oc') os') (S:S4) (hS:qas n p a b c d os p' a' b' c' d' os' code'=S):
  Calls Tryz.prog 170 #[dV p a b c d oa os.length oc code,dV p' a' b' c' d' oa' os'.length oc' code',.int .i64 n] w fun e w'=>∃ o3 c3 x1 x2 x3 x4,e=.returned (dV S.p x1 x2 x3 x4 o3 S.os.length c3 S.c)/\S.rs=[x1,x2,x3,x4]/\OwnI w' B (.slice o3 S.os.length c3) S.os/\Below w.heap.size w w':=by
 subst hS;unfold qas
 rcases zK (qcy [a',b',c',d']) with hr | hr
 ·by_cases hn:(60:Int)<(os'.length:Int)
  ·rw [if_pos (.inr hn)]
   refine (qod _ _ _ _ _ _ _ _ _ _ _ _ _ _ _ _ _ _ _ _ hr hn).mono ?_;rintro e w1 ⟨rfl,b1⟩;exact ⟨_,_,_,_,_,_,rfl,rfl,h1.below b1,b1⟩
  ·rw [if_neg (by simp [hr,hn])]
   rcases zK (belB p' n) with hp | hp
   ·rw [if_neg (by simp [hp])]
    refine (qtx _ _ _ _ _ _ _ _ _ _ _ _ _ _ _ _ _ _ _ _ hr hn hp).mono ?_;rintro e w1 ⟨rfl,b1⟩;exact ⟨_,_,_,_,_,_,rfl,rfl,h2.below b1,b1⟩
   ·rw [if_pos hp]
    refine (qqr _ _ _ _ _ _ _ _ _ _ _ _ _ _ _ _ _ _ _ _ hr hn hp).mono ?_;rintro e w1 ⟨rfl,b1⟩;exact ⟨_,_,_,_,_,_,rfl,rfl,h2.below b1,b1⟩
 ·rw [if_pos (.inl hr)]
  refine (qof _ _ _ _ _ _ _ _ _ _ _ _ _ _ _ _ _ _ _ _ hr).mono ?_;rintro e w1 ⟨rfl,b1⟩;exact ⟨_,_,_,_,_,_,rfl,rfl,h1.below b1,b1⟩
theorem qbh (b off len cap k:Nat) (g:Nat->I5) (ra oa:Option Addr) (rc oc:Nat) (a1 a2 a3 a4:Int) (os:List Int) (ek eq ev:Int) (w:World) (F:FuncId) (hE:∀ args wx,(callFunc F args).run Tryz.prog wx=.ok (.enter F args) wx) (p' b1 b2 b3 b4:Int) (os':List Int) (code':Int) (hlen:len<=maxLen) (hb:b<w.heap.size) (hI:qan w b off len g) (ho:os.length<=60) (h1:Sl w ra [a1,a2,a3,a4]) (h2:Sl w oa os) (hk:k<len) (hD:canB (nxK g len k [a1,a2,a3,a4] os 0) (nxP g len k [a1,a2,a3,a4] os 0) (nxW g len k [a1,a2,a3,a4] os 0) ek eq ev=true)
  (hF:∀ wx,Calls Tryz.prog 169 #[.int .i64 (g k).o] wx fun e w'=>e=.returned (.func (.func F) #[] #[])/\Below wx.heap.size wx w')
  (hS:∀ (o1:Option Addr) (c1 B:Nat) (wx:World),B<=wx.heap.size->OwnI wx B (.slice o1 os.length c1) os->Calls Tryz.prog F #[dV k a1 a2 a3 a4 o1 os.length c1 0,insV (g k).o (g k).r (g k).a (g k).b (g k).n,evV ek eq ev] wx (qv2 wx B (.slice o1 os.length c1) os p' b1 b2 b3 b4 os' code')):
  Calls Tryz.prog 113 #[.slice (some ⟨b,off,none⟩) len cap,stV k ra 4 rc oa os.length oc 0,evV ek eq ev] w (qc9 w (qas len k a1 a2 a3 a4 os p' b1 b2 b3 b4 os' code') true):=by
 have HI:Hid (qan w b off len g):=hI;have H1:Hid (Sl w ra [a1,a2,a3,a4]):=h1;have H2:Hid (Sl w oa os):=h2;have HL:Hid (len<=maxLen):=hlen;have HP:Hid (qac g len 4=true):=(qbb (qdr hD)).1;have HF:Hid (∀ wx,Calls Tryz.prog 169 #[.int .i64 (g k).o] wx fun e w'=>e=.returned (.func (.func F) #[] #[])/\Below wx.heap.size wx w'):=hF;have HS:Hid (∀ (o1:Option Addr) (c1 B:Nat) (wx:World),B<=wx.heap.size->OwnI wx B (.slice o1 os.length c1) os->Calls Tryz.prog F #[dV k a1 a2 a3 a4 o1 os.length c1 0,insV (g k).o (g k).r (g k).a (g k).b (g k).n,evV ek eq ev] wx (qv2 wx B (.slice o1 os.length c1) os p' b1 b2 b3 b4 os' code')):=hS;have ho':=ho;replace ho:os.length<=1048576:=by omega
 have hk':(k:Int)<(len:Int):=by omega
 have hl':(len:Int)<=9223372036854775807:=by have:=HL.out;unfold maxLen at this;omega
 clear hI h1 h2 hlen hF hS;generalize hT:qas len k a1 a2 a3 a4 os p' b1 b2 b3 b4 os' code'=S;have HT:Hid (qas len k a1 a2 a3 a4 os p' b1 b2 b3 b4 os' code'=S):=hT;clear hT
 go_enter Tryz.func113,Tryz.ntmps113
 go_wp2_with fail
 have X:=qay.new w (.int .i64 (k)) (.slice ra 4 rc) (.slice oa os.length oc) (.int .i64 0) ek eq ev 142 86 142
 have BW:Hid (Below w.heap.size w (((w.alloc (oQ1 k ra 4 rc oa os.length oc 0)).alloc (oQ0 ek eq ev)).alloc (zQ0))):=by
  show Below _ _ _
  go_grown
 generalize (((w.alloc (oQ1 k ra 4 rc oa os.length oc 0)).alloc (oQ0 ek eq ev)).alloc (zQ0))=W at *;have HX:Hid (qay W w.heap.size (.int .i64 (k)) (.slice ra 4 rc) (.slice oa os.length oc) (.int .i64 0) ek eq ev):=X;have l2:=X.lt;obtain ⟨p0,p1,p2,p3,e0,e1,e2,r0,r1,r2,r3,rf⟩:=X;have p0':=cell_regrown p0;have p1':=cell_regrown p1;have p2':=cell_regrown p2;have p3':=cell_regrown p3;have e0':=cell_regrown e0;have e1':=cell_regrown e1;have e2':=cell_regrown e2;have HB':Hid (∀ d os',Below w.heap.size w (grow (redrawn W d) os')):=fun d os'=>BW.out.trans ((below_regrown W d os').mono BW.out.size);clear p0 p1 p2 p3 e0 e1 e2 r0 r1 r2 r3 rf;refine wp_region_quiet_below (by kernel_rfl) (by kernel_rfl) ?_
 repeat (quiet_step (first|(go_at_call 109;exact Calls.regrown_of (qj3 b off len cap g (k) 0 ra oa rc oc [a1,a2,a3,a4] os _ HL.out (zL hb (HB'.out _ _).size) (HI.out.below (HB'.out _ _) hb) ho (H1.out.below (HB'.out _ _)) (H2.out.below (HB'.out _ _)) HP.out))|(go_at_call 167;exact Calls.regrown_of (qic _ _ _ _ _ _ _))))
 refine wpQuiet_nil ?_;intro _ hw';obtain ⟨⟨dq,osq⟩,hw''⟩:=hw';subst hw'';have b3:=below_regrown W dq osq;have B3:Hid (Below w.heap.size w (grow (redrawn W dq) osq)):=BW.out.trans (b3.mono BW.out.size);have X:=HX.out.below b3;have l3:=X.lt;generalize grow (redrawn W dq) osq=w3 at *;clear b3 p0' p1' p2' p3' e0' e1' e2' BW HB' l2 HX;obtain ⟨p0,p1,p2,p3,e0,e1,e2,r0,r1,r2,r3,rf⟩:=X;clear hD;obtain ⟨c0,c1,c2,c3,c4⟩:=HI.out.below B3.out hb k hk;have X3:qay w3 w.heap.size (.int .i64 k) (.slice ra 4 rc) (.slice oa os.length oc) (.int .i64 0) ek eq ev:=⟨p0,p1,p2,p3,e0,e1,e2,r0,r1,r2,r3,rf⟩
 have bX:=zS w3 (oQ3 (g k).o (g k).r (g k).a (g k).b (g k).n);have X4:Hid (qay (w3.alloc (oQ3 (g k).o (g k).r (g k).a (g k).b (g k).n)) w.heap.size (.int .i64 k) (.slice ra 4 rc) (.slice oa os.length oc) (.int .i64 0) ek eq ev):=X3.below bX;have B4:Hid (Below w.heap.size w (w3.alloc (oQ3 (g k).o (g k).r (g k).a (g k).b (g k).n))):=B3.out.trans (bX.mono B3.out.size);obtain ⟨q0,q1,q2,q3,-,-,-,-,-,-,-,-⟩:=X4.out;clear X3 bX;go_wp2_with fail
 have i0:(w3.alloc (oQ3 (g k).o (g k).r (g k).a (g k).b (g k).n)).cell? ⟨w3.heap.size,0,none⟩=some (.int .i64 (g k).o):=zV _ _ _ 0 rfl;have i1:(w3.alloc (oQ3 (g k).o (g k).r (g k).a (g k).b (g k).n)).cell? ⟨w3.heap.size,1,none⟩=some (.int .i64 (g k).r):=zV _ _ _ 1 rfl;have i2:(w3.alloc (oQ3 (g k).o (g k).r (g k).a (g k).b (g k).n)).cell? ⟨w3.heap.size,2,none⟩=some (.int .i64 (g k).a):=zV _ _ _ 2 rfl;have i3:(w3.alloc (oQ3 (g k).o (g k).r (g k).a (g k).b (g k).n)).cell? ⟨w3.heap.size,3,none⟩=some (.int .i64 (g k).b):=zV _ _ _ 3 rfl;have i4:(w3.alloc (oQ3 (g k).o (g k).r (g k).a (g k).b (g k).n)).cell? ⟨w3.heap.size,4,none⟩=some (.int .i64 (g k).n):=zV _ _ _ 4 rfl;have zX:w3.heap.size<(w3.alloc (oQ3 (g k).o (g k).r (g k).a (g k).b (g k).n)).heap.size:=by simp
 clear p0 p1 p2 p3 e0 e1 e2 r0 r1 r2 r3 rf c0 c1 c2 c3 c4 q0 q1 q2 q3;generalize w3.alloc (oQ3 (g k).o (g k).r (g k).a (g k).b (g k).n)=W4 at *;generalize w3.heap.size=N3 at *;refine (qpn (k:Int) 0 ra oa rc oc a1 a2 a3 a4 os _ ho (H1.out.below B4.out) (H2.out.below B4.out)).mono ?_;rintro e w5 ⟨o1,c1,rfl,o5,b5⟩;have X5:Hid (qay w5 w.heap.size (.int .i64 k) (.slice ra 4 rc) (.slice oa os.length oc) (.int .i64 0) ek eq ev):=X4.out.below b5;have B5:Hid (Below w.heap.size w w5):=B4.out.trans (b5.mono B4.out.size);have O5:Hid (OwnI w5 W4.heap.size (.slice o1 os.length c1) os):=o5;obtain ⟨hc5,-⟩:=qap b5;replace i0:=(hc5 _ 0 zX).trans i0;replace i1:=(hc5 _ 1 zX).trans i1;replace i2:=(hc5 _ 2 zX).trans i2;replace i3:=(hc5 _ 3 zX).trans i3;replace i4:=(hc5 _ 4 zX).trans i4;have z5:W4.heap.size<=w5.heap.size:=b5.size;clear hc5 b5 o5 X4 B4 B3;go_wp2_with fail
 have bY:=zS w5 (oQ2 k a1 a2 a3 a4 o1 os.length c1 0);have X6:Hid (qay (w5.alloc (oQ2 k a1 a2 a3 a4 o1 os.length c1 0)) w.heap.size (.int .i64 k) (.slice ra 4 rc) (.slice oa os.length oc) (.int .i64 0) ek eq ev):=X5.out.below bY;have Y6:Hid (DC (w5.alloc (oQ2 k a1 a2 a3 a4 o1 os.length c1 0)) w5.heap.size k a1 a2 a3 a4 o1 os.length c1 0):=DC.new w5 _ _ _ _ _ _ _ _ _ _;have B6:Hid (Below w.heap.size w (w5.alloc (oQ2 k a1 a2 a3 a4 o1 os.length c1 0))):=B5.out.trans (bY.mono B5.out.size);have O6:Hid (OwnI (w5.alloc (oQ2 k a1 a2 a3 a4 o1 os.length c1 0)) W4.heap.size (.slice o1 os.length c1) os):=O5.out.below bY;have LO:Hid (∀ j,(Value.slice o1 os.length c1).ownBlock=some j->W4.heap.size<=j/\j<w5.heap.size):=fun j hj=>O5.out.lt j hj;have l5:N3<w5.heap.size:=by omega
 obtain ⟨hcY,-⟩:=qap bY;replace i0:=(hcY _ 0 l5).trans i0;replace i1:=(hcY _ 1 l5).trans i1;replace i2:=(hcY _ 2 l5).trans i2;replace i3:=(hcY _ 3 l5).trans i3;replace i4:=(hcY _ 4 l5).trans i4;have z6:w5.heap.size<(w5.alloc (oQ2 k a1 a2 a3 a4 o1 os.length c1 0)).heap.size:=by simp
 clear X5 B5 O5 bY hcY;generalize w5.alloc (oQ2 k a1 a2 a3 a4 o1 os.length c1 0)=W6 at *;generalize w5.heap.size=N5 at *;obtain ⟨j0,j1,j2,j3,j4,j5,j6⟩:=Y6.out;obtain ⟨-,-,-,-,e0,e1,e2,-,-,-,-,-⟩:=X6.out;have g1:N3<W6.heap.size:=by omega
 have g2:w.heap.size+1<W6.heap.size:=by omega
 have d61:W6.heap.size≠N3:=by omega
 have d62:W6.heap.size≠N5:=by omega
 have d63:W6.heap.size≠w.heap.size+1:=by omega
 have z6':N5<=W6.heap.size:=Nat.le_of_lt z6
 go_cut [10] from 26 to 32 (fun s wx=>∃ N:Nat,s=.pointer (some ⟨N,0,none⟩)/\Hid (qgq w N5 W4.heap.size k ra oa rc oc a1 a2 a3 a4 os ek eq ev o1 c1 p' b1 b2 b3 b4 os' code' wx N))
 case first=>
  go_region_held3 (fun w'=>w'.cell? ⟨N3,0,none⟩=some (.int .i64 (g k).o)/\w'.cell? ⟨N3,1,none⟩=some (.int .i64 (g k).r)/\w'.cell? ⟨N3,2,none⟩=some (.int .i64 (g k).a)/\w'.cell? ⟨N3,3,none⟩=some (.int .i64 (g k).b)/\w'.cell? ⟨N3,4,none⟩=some (.int .i64 (g k).n)/\w'.cell? ⟨N5,0,none⟩=some (.int .i64 k)/\w'.cell? ⟨N5,1,none⟩=some (.int .i64 a1)/\w'.cell? ⟨N5,2,none⟩=some (.int .i64 a2)/\w'.cell? ⟨N5,3,none⟩=some (.int .i64 a3)/\w'.cell? ⟨N5,4,none⟩=some (.int .i64 a4)/\w'.cell? ⟨N5,5,none⟩=some (.slice o1 os.length c1)/\w'.cell? ⟨N5,6,none⟩=some (.int .i64 0)/\w'.cell? ⟨w.heap.size+1,0,none⟩=some (.int .i64 ek)/\w'.cell? ⟨w.heap.size+1,1,none⟩=some (.int .i64 eq)/\w'.cell? ⟨w.heap.size+1,2,none⟩=some (.int .i64 ev)) (go_keep)
   (first
    | (go_at_call 169;refine (HF.out _).mono ?_;rintro e w7 ⟨rfl,b7⟩;have q7:Below W6.heap.size W6 w7:=qai (by go_grown) b7 (by simp);obtain ⟨hc7,hf7⟩:=qap b7;obtain ⟨hq7,-⟩:=qap q7;have t0:=(hq7 (N3) 0 g1).trans i0;have t1:=(hq7 (N3) 1 g1).trans i1;have t2:=(hq7 (N3) 2 g1).trans i2;have t3:=(hq7 (N3) 3 g1).trans i3;have t4:=(hq7 (N3) 4 g1).trans i4;have t5:=(hq7 (N5) 0 z6).trans j0;have t6:=(hq7 (N5) 1 z6).trans j1;have t7:=(hq7 (N5) 2 z6).trans j2;have t8:=(hq7 (N5) 3 z6).trans j3;have t9:=(hq7 (N5) 4 z6).trans j4;have t10:=(hq7 (N5) 5 z6).trans j5;have t11:=(hq7 (N5) 6 z6).trans j6;have t12:=(hq7 (w.heap.size+1) 0 g2).trans e0;have t13:=(hq7 (w.heap.size+1) 1 g2).trans e1;have t14:=(hq7 (w.heap.size+1) 2 g2).trans e2;clear hq7;have Q7:Hid (Below W6.heap.size W6 w7):=q7;have l71:N3<w7.heap.size:=zL g1 q7.size;have l72:N5<w7.heap.size:=zL z6 q7.size;have l73:w.heap.size+1<w7.heap.size:=zL g2 q7.size;have l75:N5<=w7.heap.size:=Nat.le_of_lt l72;have l74:=b7.size;(try simp only [World.size_alloc,World.size_drew,Nat.add_one_le_iff] at l74);have d71:w7.heap.size≠N3:=Nat.ne_of_gt l71;have d72:w7.heap.size≠N5:=Nat.ne_of_gt l72;have d73:w7.heap.size≠w.heap.size+1:=Nat.ne_of_gt l73;have O7:Hid (OwnI w7 W4.heap.size (.slice o1 os.length c1) os):=O6.out.below q7;clear b7 q7)
    | (refine (HS.out o1 c1 W4.heap.size _ (by have:=Q7.out.size;simp;omega) (O7.out.below (by go_grown))).mono ?_;rintro e w8 ⟨o2,c2,rfl,n8,m8,g8,a8⟩;(try simp only [World.size_alloc] at a8);have A8:Hid (_):=a8;have ne8:∀ j,(j<W4.heap.size\/N5<=j)->some j≠(Value.slice o1 os.length c1).ownBlock:=(fun j hj h=>by have:=LO.out j h.symm;omega);have q8:=(qbq (zY (show Below w7.heap.size w7 _ by go_grown)) (Value.slice o1 os.length c1).ownBlock).trans g8;have v3:=qhj q8 (b:=N3) l71 (ne8 _ (.inl zX));have v5:=qhj q8 (b:=N5) l72 (ne8 _ (.inr (Nat.le_refl _)));have v1:=qhj q8 (b:=w.heap.size+1) l73 (ne8 _ (.inl (by omega)));have s0:=(v3.1 0).trans t0;have s1:=(v3.1 1).trans t1;have s2:=(v3.1 2).trans t2;have s3:=(v3.1 3).trans t3;have s4:=(v3.1 4).trans t4;have s5:=(v5.1 0).trans t5;have s6:=(v5.1 1).trans t6;have s7:=(v5.1 2).trans t7;have s8:=(v5.1 3).trans t8;have s9:=(v5.1 4).trans t9;have s10:=(v5.1 5).trans t10;have s11:=(v5.1 6).trans t11;have s12:=(v1.1 0).trans t12;have s13:=(v1.1 1).trans t13;have s14:=(v1.1 2).trans t14;have hc8:=fun b o hb hn=>(qhj g8 (b:=b) hb (ne8 _ (.inr hn))).1 o;have hf8:=fun b o hb hn=>(qhj g8 (b:=b) hb (ne8 _ (.inr hn))).2 o;have N8:Hid (OwnI w8 W4.heap.size (.slice o2 os'.length c2) os'):=n8;have M8:Hid (OwnI w8 W4.heap.size (.slice o1 os.length c1) os):=m8;have G8:Hid (w7.grownBy w8 (Value.slice o1 os.length c1).ownBlock):=q8;clear n8 m8 g8 q8 a8 v3 v5 v1 ne8))
  all_goals
   go_wp2_with fail
   go_meet
   case rel=>
    have K8:∀ j,j<W6.heap.size->(j<W4.heap.size\/N5<=j)->w8.heap[j]? = W6.heap[j]?:=fun j h1 h2=>(G8.out.block j (by have:=Q7.out.size;omega) (fun h=>by have:=LO.out j h.symm;omega)).trans (Q7.out.block j h1);have X8:=X6.out.kept (w':=w8) fun j h1 h2=>K8 j (by omega) (.inl (by omega));have Y8:=Y6.out.kept (w':=w8) (K8 N5 z6 (.inr (Nat.le_refl _)));have B8:Below w.heap.size w w8:=(B6.out.trans (Q7.out.mono B6.out.size)).trans (qii G8.out (fun j hj=>by have:=LO.out j hj;omega) (by have:=(B6.out.trans (Q7.out.mono B6.out.size)).size;omega));have zz8:w7.heap.size<=w8.heap.size:=G8.out.size
    first
    | (refine ⟨w8.heap.size, by with_reducible rfl, ?_⟩
       exact qgq.of_alloc X8 Y8 N8.out M8.out B8 _)
    | (refine ⟨w7.heap.size, by with_reducible rfl, ?_⟩
       have nM:∀ j,(Value.slice o1 os.length c1).ownBlock=some j->j≠w7.heap.size:=fun j hj=>by have:=LO.out j hj;omega
       exact qgq.of_put X8 Y8 N8.out M8.out B8 (by omega) (by omega) ⟨by rw [hc8 _ _ (by simp) l75]; simp, by rw [hc8 _ _ (by simp) l75]; simp, by rw [hc8 _ _ (by simp) l75]; simp, by rw [hc8 _ _ (by simp) l75]; simp, by rw [hc8 _ _ (by simp) l75]; simp, by rw [hc8 _ _ (by simp) l75]; simp, by rw [hc8 _ _ (by simp) l75]; simp⟩ nM (fun j hj => by
       rcases A8.out j hj with h | h
       ·exact nM j h
       ·omega))
    | (refine ⟨W6.heap.size, by with_reducible rfl, ?_⟩
       have nM:∀ j,(Value.slice o1 os.length c1).ownBlock=some j->j≠W6.heap.size:=fun j hj=>by have:=LO.out j hj;omega
       exact qgq.of_put X8 Y8 N8.out M8.out B8 (by omega) (by omega) ⟨by rw [hc8 _ _ (by simpa using l74) z6', hc7 _ _ (by simp)]; simp, by rw [hc8 _ _ (by simpa using l74) z6', hc7 _ _ (by simp)]; simp, by rw [hc8 _ _ (by simpa using l74) z6', hc7 _ _ (by simp)]; simp, by rw [hc8 _ _ (by simpa using l74) z6', hc7 _ _ (by simp)]; simp, by rw [hc8 _ _ (by simpa using l74) z6', hc7 _ _ (by simp)]; simp, by rw [hc8 _ _ (by simpa using l74) z6', hc7 _ _ (by simp)]; simp, by rw [hc8 _ _ (by simpa using l74) z6', hc7 _ _ (by simp)]; simp⟩ nM (fun j hj => by
       rcases A8.out j hj with h | h
       ·exact nM j h
       ·omega))
 case rest=>
  obtain ⟨N,rfl,HA⟩:=hcut;obtain ⟨XC,YC,⟨o2,c2,ZC,NC⟩,MC,BC⟩:=HA.out;have HXC:Hid (qay wc w.heap.size (.int .i64 k) (.slice ra 4 rc) (.slice oa os.length oc) (.int .i64 0) ek eq ev):=XC;have HNC:Hid (OwnI wc W4.heap.size (.slice o2 os'.length c2) os'):=NC;have HMC:Hid (OwnI wc W4.heap.size (.slice o1 os.length c1) os):=MC;have HBC:Hid (Below w.heap.size w wc):=BC;have zC:W4.heap.size<=wc.heap.size:=by have:=YC.lt;omega
  clear HA XC NC MC BC i0 i1 i2 i3 i4 j0 j1 j2 j3 j4 j5 j6 e0 e1 e2 X6 Y6 B6 O6;obtain ⟨j0,j1,j2,j3,j4,j5,j6⟩:=YC;obtain ⟨i0,i1,i2,i3,i4,i5,i6⟩:=ZC;go_wp2_with fail
  refine (qqq (k:Int) a1 a2 a3 a4 o1 c1 os 0 p' b1 b2 b3 b4 o2 c2 os' code' len W4.heap.size wc HMC.out HNC.out S HT.out).mono ?_;rintro e w9 ⟨o3,c3,x1,x2,x3,x4,rfl,hrs,o9,b9⟩;have X9:Hid (qay w9 w.heap.size (.int .i64 k) (.slice ra 4 rc) (.slice oa os.length oc) (.int .i64 0) ek eq ev):=HXC.out.below b9;have B9:Hid (Below w.heap.size w w9):=HBC.out.trans (b9.mono HBC.out.size);have O9:Hid (OwnI w9 W4.heap.size (.slice o3 S.os.length c3) S.os):=o9;have z9:W4.heap.size<=w9.heap.size:=zO zC b9.size;have HRS:Hid (S.rs=[x1,x2,x3,x4]):=hrs;clear o9 b9 hrs j0 j1 j2 j3 j4 j5 j6 i0 i1 i2 i3 i4 i5 i6 HXC HNC HMC HBC;go_wp2_with fail
  refine (qvl S.p x1 x2 x3 x4 o3 c3 S.os S.c W4.heap.size w9 z9 O9.out).mono ?_;rintro e w10 ⟨v,rfl,o10,b10⟩;rw [<- HRS.out] at o10;have B10:Hid (Below w.heap.size w w10):=B9.out.trans (b10.mono B9.out.size);obtain ⟨-,-,-,-,-,-,-,r0,r1,r2,r3,rf⟩:=X9.out.below b10;obtain ⟨ra2,rc2,oa2,oc2,rfl,-,-⟩:=o10.read;have O10:Hid (qag w10 W4.heap.size (stV S.p ra2 S.rs.length rc2 oa2 S.os.length oc2 S.c) S.p S.rs S.os S.c):=o10;clear o10 b10;go_wp2;refine bodyPost_ret (v:=.tuple #[stV S.p ra2 S.rs.length rc2 oa2 S.os.length oc2 S.c,.bool true]) (by simp [results,Tryz.results113,go_sem,r0,r1,r2,r3]) rfl ⟨_,rfl,?_,?_⟩
  ·exact qag.put4 (B':=W4.heap.size) O10.out (by omega) (by omega)
  ·have:=B10.out
   go_grown
theorem zZ {f : FuncId} {fn : Func} {c : Code} (hf : Tryz.prog.funcs[f]? = some fn) (hname : (fn.name == "runtime.NumGoroutine") = false) (hb : fn.body = some c) (args : Array Value) (w : World) :
  (callFunc f args).run Tryz.prog w=.ok (.enter f args) w:=by
 have h1 : fn.name ≠ "runtime.NumGoroutine" := by simpa using hname
 simp [callFunc,hf,h1,hb]
theorem qa1 {w w':World} {B:Nat} {o1:Option Addr} {c1:Nat} {os:List Int} {p' b1 b2 b3 b4 code':Int} (hO:OwnI w B (.slice o1 os.length c1) os) (hb:Below w.heap.size w w'):
  qv2 w B (.slice o1 os.length c1) os p' b1 b2 b3 b4 os code' (.returned (dV p' b1 b2 b3 b4 o1 os.length c1 code')) w':=
 ⟨o1,c1,rfl,hO.below hb,hO.below hb,qbq (zY hb) _,fun _ h=>.inl h⟩
theorem qb5 {len k:Nat} {a1 a2 a3 a4:Int} {os:List Int} {jr:Nat} {v:Int} (hn:numB a1=true/\numB a2=true/\numB a3=true/\numB a4=true) (h60:os.length<=60) (hj:jr<4):
  qas len k a1 a2 a3 a4 os (k+1) (set4 a1 a2 a3 a4 jr v).1 (set4 a1 a2 a3 a4 jr v).2.1 (set4 a1 a2 a3 a4 jr v).2.2.1 (set4 a1 a2 a3 a4 jr v).2.2.2 os 0=if numB v=true then goS len k ([a1,a2,a3,a4].set jr v) os 0 else ⟨k,[a1,a2,a3,a4],os,2⟩:=by
 obtain ⟨n1,n2,n3,n4⟩:=hn
 have h1:qcy ([a1,a2,a3,a4].set jr v)=numB v:=by
  match jr,hj with
  | 0,_=>simp [qcy,allN,n2,n3,n4]
  | 1,_=>simp [qcy,allN,n1,n3,n4]
  | 2,_=>simp [qcy,allN,n1,n2,n4]
  | 3,_=>simp [qcy,allN,n1,n2,n3]
 have h2:¬ (60:Int)<(os.length:Int):=by omega
 unfold qas;rw [qvj _ _ _ _ _ _ hj,h1];cases hv:numB v
 ·simp
 ·by_cases h3:(len:Int)<=(k:Int)+1
  ·have h4:belB ((k:Int)+1) len=false:=by simp [belB];omega
   simp [h2,h4,goS,goP,goC,h3]
  ·have h4:belB ((k:Int)+1) len=true:=by simp [belB];omega
   simp [h2,h4,goS,goP,goC,h3]
theorem qd2 {len k:Nat} {a1 a2 a3 a4:Int} {os os':List Int} (hn:numB a1=true/\numB a2=true/\numB a3=true/\numB a4=true) (h60:os'.length<=60):
  qas len k a1 a2 a3 a4 os (k+1) a1 a2 a3 a4 os' 0=goS len k [a1,a2,a3,a4] os' 0:=by
 obtain ⟨n1,n2,n3,n4⟩:=hn;have h1:qcy [a1,a2,a3,a4]=true:=by simp [qcy,allN,n1,n2,n3,n4]
 have h2:¬ (60:Int)<(os'.length:Int):=by omega
 unfold qas;rw [h1];by_cases h3:(len:Int)<=(k:Int)+1
 ·have h4:belB ((k:Int)+1) len=false:=by simp [belB];omega
  simp [h2,h4,goS,goP,goC,h3]
 ·have h4:belB ((k:Int)+1) len=true:=by simp [belB];omega
  simp [h2,h4,goS,goP,goC,h3]
theorem qoe {len k:Nat} {a1 a2 a3 a4 p' b1 b2 b3 b4 code':Int} {os os':List Int} (h60:60<os'.length):
  qas len k a1 a2 a3 a4 os p' b1 b2 b3 b4 os' code'=⟨k,[a1,a2,a3,a4],os,2⟩:=by
 unfold qas;rw [if_pos (.inr (by omega))]
theorem qgl {len k:Nat} {a1 a2 a3 a4 n code':Int} {os:List Int} (hn:numB a1=true/\numB a2=true/\numB a3=true/\numB a4=true) (h60:os.length<=60) (hb:belB n len=true):
  qas len k a1 a2 a3 a4 os n a1 a2 a3 a4 os code'=⟨n,[a1,a2,a3,a4],os,code'⟩:=by
 obtain ⟨n1,n2,n3,n4⟩:=hn;have h1:qcy [a1,a2,a3,a4]=true:=by simp [qcy,allN,n1,n2,n3,n4]
 have h2:¬ (60:Int)<(os.length:Int):=by omega
 unfold qas;rw [h1,hb];simp [h2]
theorem qys (b off len cap k:Nat) (g:Nat->I5) (ra oa:Option Addr) (rc oc:Nat) (a1 a2 a3 a4:Int) (os:List Int) (ek eq ev:Int) (w:World) (jr ja jb:Nat) (hj:(g k).r=jr/\(g k).a=ja/\(g k).b=jb) (j4:jr<4/\ja<4/\jb<4) (hn:numB a1=true/\numB a2=true/\numB a3=true/\numB a4=true) (_hz:∀ j,j<4->numB (zi [a1,a2,a3,a4] j)=true) (hl:(len:Int)<=30) (hb:b<w.heap.size) (hI:qan w b off len g) (h60:os.length<=60) (h1:Sl w ra [a1,a2,a3,a4]) (h2:Sl w oa os) (hk:k<len) (hD:canB (nxK g len k [a1,a2,a3,a4] os 0) (nxP g len k [a1,a2,a3,a4] os 0) (nxW g len k [a1,a2,a3,a4] os 0) ek eq ev=true) (ho:(g k).o=1):
  Calls Tryz.prog 113 #[.slice (some ⟨b,off,none⟩) len cap,stV k ra 4 rc oa os.length oc 0,evV ek eq ev] w (qc9 w (qah len (g k) k [a1,a2,a3,a4] os 0 ev) true):=by
 obtain ⟨hjr,hja,hjb⟩:=hj;obtain ⟨j1,j2,j3⟩:=j4
 have e:qas len k a1 a2 a3 a4 os (k+1) (set4 a1 a2 a3 a4 jr ((g k).n)).1 (set4 a1 a2 a3 a4 jr ((g k).n)).2.1 (set4 a1 a2 a3 a4 jr ((g k).n)).2.2.1 (set4 a1 a2 a3 a4 jr ((g k).n)).2.2.2 os 0=qah len (g k) k [a1,a2,a3,a4] os 0 ev:=by
  rw [qb5 hn h60 j1];simp [qah,ho,qkh,hjr]
 rw [<- e];refine qbh b off len cap k g ra oa rc oc a1 a2 a3 a4 os ek eq ev w 212 (zZ Tryz.func212 (by kernel_rfl) rfl) (k+1) (set4 a1 a2 a3 a4 jr ((g k).n)).1 (set4 a1 a2 a3 a4 jr ((g k).n)).2.1 (set4 a1 a2 a3 a4 jr ((g k).n)).2.2.1 (set4 a1 a2 a3 a4 jr ((g k).n)).2.2.2 os 0 (by unfold maxLen;omega) hb hI h60 h1 h2 hk hD (by rw [ho];exact qww) (fun o1 c1 B wx hB hO=>?_);rw [hjr,hja,hjb];refine (qw7 _ _ _ _ _ _ _ _ _ jr ja jb _ _ _ _ _ _ (by omega) (by omega) j1).mono ?_;rintro e w' ⟨rfl,b⟩;exact qa1 hO b
theorem qyp (b off len cap k:Nat) (g:Nat->I5) (ra oa:Option Addr) (rc oc:Nat) (a1 a2 a3 a4:Int) (os:List Int) (ek eq ev:Int) (w:World) (jr ja jb:Nat) (hj:(g k).r=jr/\(g k).a=ja/\(g k).b=jb) (j4:jr<4/\ja<4/\jb<4) (hn:numB a1=true/\numB a2=true/\numB a3=true/\numB a4=true) (_hz:∀ j,j<4->numB (zi [a1,a2,a3,a4] j)=true) (hl:(len:Int)<=30) (hb:b<w.heap.size) (hI:qan w b off len g) (h60:os.length<=60) (h1:Sl w ra [a1,a2,a3,a4]) (h2:Sl w oa os) (hk:k<len) (hD:canB (nxK g len k [a1,a2,a3,a4] os 0) (nxP g len k [a1,a2,a3,a4] os 0) (nxW g len k [a1,a2,a3,a4] os 0) ek eq ev=true) (ho:(g k).o=2):
  Calls Tryz.prog 113 #[.slice (some ⟨b,off,none⟩) len cap,stV k ra 4 rc oa os.length oc 0,evV ek eq ev] w (qc9 w (qah len (g k) k [a1,a2,a3,a4] os 0 ev) true):=by
 obtain ⟨hjr,hja,hjb⟩:=hj;obtain ⟨j1,j2,j3⟩:=j4;have zA:=qbp.mp (_hz ja j2);have zB:=qbp.mp (_hz jb j3);have zM:=qcw (_hz ja j2) (_hz jb j3)
 have e:qas len k a1 a2 a3 a4 os (k+1) (set4 a1 a2 a3 a4 jr (zi [a1,a2,a3,a4] ja+zi [a1,a2,a3,a4] jb)).1 (set4 a1 a2 a3 a4 jr (zi [a1,a2,a3,a4] ja+zi [a1,a2,a3,a4] jb)).2.1 (set4 a1 a2 a3 a4 jr (zi [a1,a2,a3,a4] ja+zi [a1,a2,a3,a4] jb)).2.2.1 (set4 a1 a2 a3 a4 jr (zi [a1,a2,a3,a4] ja+zi [a1,a2,a3,a4] jb)).2.2.2 os 0=qah len (g k) k [a1,a2,a3,a4] os 0 ev:=by
  rw [qb5 hn h60 j1];simp [qah,ho,qkh,hjr,hja,hjb]
 rw [<- e];refine qbh b off len cap k g ra oa rc oc a1 a2 a3 a4 os ek eq ev w 213 (zZ Tryz.func213 (by kernel_rfl) rfl) (k+1) (set4 a1 a2 a3 a4 jr (zi [a1,a2,a3,a4] ja+zi [a1,a2,a3,a4] jb)).1 (set4 a1 a2 a3 a4 jr (zi [a1,a2,a3,a4] ja+zi [a1,a2,a3,a4] jb)).2.1 (set4 a1 a2 a3 a4 jr (zi [a1,a2,a3,a4] ja+zi [a1,a2,a3,a4] jb)).2.2.1 (set4 a1 a2 a3 a4 jr (zi [a1,a2,a3,a4] ja+zi [a1,a2,a3,a4] jb)).2.2.2 os 0 (by unfold maxLen;omega) hb hI h60 h1 h2 hk hD (by rw [ho];exact qwx) (fun o1 c1 B wx hB hO=>?_);rw [hjr,hja,hjb];refine (qw4 _ _ _ _ _ _ _ _ _ jr ja jb _ _ _ _ _ _ (by omega) (by omega) j1 j2 j3 zA.1 zA.2 zB.1 zB.2 zM.1 zM.2).mono ?_;rintro e w' ⟨rfl,b⟩;exact qa1 hO b
theorem qyt (b off len cap k:Nat) (g:Nat->I5) (ra oa:Option Addr) (rc oc:Nat) (a1 a2 a3 a4:Int) (os:List Int) (ek eq ev:Int) (w:World) (jr ja jb:Nat) (hj:(g k).r=jr/\(g k).a=ja/\(g k).b=jb) (j4:jr<4/\ja<4/\jb<4) (hn:numB a1=true/\numB a2=true/\numB a3=true/\numB a4=true) (_hz:∀ j,j<4->numB (zi [a1,a2,a3,a4] j)=true) (hl:(len:Int)<=30) (hb:b<w.heap.size) (hI:qan w b off len g) (h60:os.length<=60) (h1:Sl w ra [a1,a2,a3,a4]) (h2:Sl w oa os) (hk:k<len) (hD:canB (nxK g len k [a1,a2,a3,a4] os 0) (nxP g len k [a1,a2,a3,a4] os 0) (nxW g len k [a1,a2,a3,a4] os 0) ek eq ev=true) (ho:(g k).o=3):
  Calls Tryz.prog 113 #[.slice (some ⟨b,off,none⟩) len cap,stV k ra 4 rc oa os.length oc 0,evV ek eq ev] w (qc9 w (qah len (g k) k [a1,a2,a3,a4] os 0 ev) true):=by
 obtain ⟨hjr,hja,hjb⟩:=hj;obtain ⟨j1,j2,j3⟩:=j4;have zA:=qbp.mp (_hz ja j2);have zB:=qbp.mp (_hz jb j3);have zM:=qcw (_hz ja j2) (_hz jb j3)
 have e:qas len k a1 a2 a3 a4 os (k+1) (set4 a1 a2 a3 a4 jr (zi [a1,a2,a3,a4] ja - zi [a1,a2,a3,a4] jb)).1 (set4 a1 a2 a3 a4 jr (zi [a1,a2,a3,a4] ja - zi [a1,a2,a3,a4] jb)).2.1 (set4 a1 a2 a3 a4 jr (zi [a1,a2,a3,a4] ja - zi [a1,a2,a3,a4] jb)).2.2.1 (set4 a1 a2 a3 a4 jr (zi [a1,a2,a3,a4] ja - zi [a1,a2,a3,a4] jb)).2.2.2 os 0=qah len (g k) k [a1,a2,a3,a4] os 0 ev:=by
  rw [qb5 hn h60 j1];simp [qah,ho,qkh,hjr,hja,hjb]
 rw [<- e];refine qbh b off len cap k g ra oa rc oc a1 a2 a3 a4 os ek eq ev w 214 (zZ Tryz.func214 (by kernel_rfl) rfl) (k+1) (set4 a1 a2 a3 a4 jr (zi [a1,a2,a3,a4] ja - zi [a1,a2,a3,a4] jb)).1 (set4 a1 a2 a3 a4 jr (zi [a1,a2,a3,a4] ja - zi [a1,a2,a3,a4] jb)).2.1 (set4 a1 a2 a3 a4 jr (zi [a1,a2,a3,a4] ja - zi [a1,a2,a3,a4] jb)).2.2.1 (set4 a1 a2 a3 a4 jr (zi [a1,a2,a3,a4] ja - zi [a1,a2,a3,a4] jb)).2.2.2 os 0 (by unfold maxLen;omega) hb hI h60 h1 h2 hk hD (by rw [ho];exact qwy) (fun o1 c1 B wx hB hO=>?_);rw [hjr,hja,hjb];refine (qw8 _ _ _ _ _ _ _ _ _ jr ja jb _ _ _ _ _ _ (by omega) (by omega) j1 j2 j3 zA.1 zA.2 zB.1 zB.2 zM.1 zM.2).mono ?_;rintro e w' ⟨rfl,b⟩;exact qa1 hO b
theorem qyr (b off len cap k:Nat) (g:Nat->I5) (ra oa:Option Addr) (rc oc:Nat) (a1 a2 a3 a4:Int) (os:List Int) (ek eq ev:Int) (w:World) (jr ja jb:Nat) (hj:(g k).r=jr/\(g k).a=ja/\(g k).b=jb) (j4:jr<4/\ja<4/\jb<4) (hn:numB a1=true/\numB a2=true/\numB a3=true/\numB a4=true) (_hz:∀ j,j<4->numB (zi [a1,a2,a3,a4] j)=true) (hl:(len:Int)<=30) (hb:b<w.heap.size) (hI:qan w b off len g) (h60:os.length<=60) (h1:Sl w ra [a1,a2,a3,a4]) (h2:Sl w oa os) (hk:k<len) (hD:canB (nxK g len k [a1,a2,a3,a4] os 0) (nxP g len k [a1,a2,a3,a4] os 0) (nxW g len k [a1,a2,a3,a4] os 0) ek eq ev=true) (ho:(g k).o=4):
  Calls Tryz.prog 113 #[.slice (some ⟨b,off,none⟩) len cap,stV k ra 4 rc oa os.length oc 0,evV ek eq ev] w (qc9 w (qah len (g k) k [a1,a2,a3,a4] os 0 ev) true):=by
 obtain ⟨hjr,hja,hjb⟩:=hj;obtain ⟨j1,j2,j3⟩:=j4;have zA:=qbp.mp (_hz ja j2);have zB:=qbp.mp (_hz jb j3);have zM:=qcw (_hz ja j2) (_hz jb j3)
 have e:qas len k a1 a2 a3 a4 os (k+1) (set4 a1 a2 a3 a4 jr (zi [a1,a2,a3,a4] ja*zi [a1,a2,a3,a4] jb)).1 (set4 a1 a2 a3 a4 jr (zi [a1,a2,a3,a4] ja*zi [a1,a2,a3,a4] jb)).2.1 (set4 a1 a2 a3 a4 jr (zi [a1,a2,a3,a4] ja*zi [a1,a2,a3,a4] jb)).2.2.1 (set4 a1 a2 a3 a4 jr (zi [a1,a2,a3,a4] ja*zi [a1,a2,a3,a4] jb)).2.2.2 os 0=qah len (g k) k [a1,a2,a3,a4] os 0 ev:=by
  rw [qb5 hn h60 j1];simp [qah,ho,qkh,hjr,hja,hjb]
 rw [<- e];refine qbh b off len cap k g ra oa rc oc a1 a2 a3 a4 os ek eq ev w 215 (zZ Tryz.func215 (by kernel_rfl) rfl) (k+1) (set4 a1 a2 a3 a4 jr (zi [a1,a2,a3,a4] ja*zi [a1,a2,a3,a4] jb)).1 (set4 a1 a2 a3 a4 jr (zi [a1,a2,a3,a4] ja*zi [a1,a2,a3,a4] jb)).2.1 (set4 a1 a2 a3 a4 jr (zi [a1,a2,a3,a4] ja*zi [a1,a2,a3,a4] jb)).2.2.1 (set4 a1 a2 a3 a4 jr (zi [a1,a2,a3,a4] ja*zi [a1,a2,a3,a4] jb)).2.2.2 os 0 (by unfold maxLen;omega) hb hI h60 h1 h2 hk hD (by rw [ho];exact qwz) (fun o1 c1 B wx hB hO=>?_);rw [hjr,hja,hjb];refine (qw6 _ _ _ _ _ _ _ _ _ jr ja jb _ _ _ _ _ _ (by omega) (by omega) j1 j2 j3 zA.1 zA.2 zB.1 zB.2 zM.1 zM.2).mono ?_;rintro e w' ⟨rfl,b⟩;exact qa1 hO b
theorem qpl (b off len cap k:Nat) (g:Nat->I5) (ra oa:Option Addr) (rc oc:Nat) (a1 a2 a3 a4:Int) (os:List Int) (ek eq ev:Int) (w:World) (jr ja jb:Nat) (hj:(g k).r=jr/\(g k).a=ja/\(g k).b=jb) (j4:jr<4/\ja<4/\jb<4) (hn:numB a1=true/\numB a2=true/\numB a3=true/\numB a4=true) (_hz:∀ j,j<4->numB (zi [a1,a2,a3,a4] j)=true) (hl:(len:Int)<=30) (hb:b<w.heap.size) (hI:qan w b off len g) (h60:os.length<=60) (h1:Sl w ra [a1,a2,a3,a4]) (h2:Sl w oa os) (hk:k<len) (hD:canB (nxK g len k [a1,a2,a3,a4] os 0) (nxP g len k [a1,a2,a3,a4] os 0) (nxW g len k [a1,a2,a3,a4] os 0) ek eq ev=true) (ho:(g k).o=5) (hlt:zi [a1,a2,a3,a4] ja<zi [a1,a2,a3,a4] jb):
  Calls Tryz.prog 113 #[.slice (some ⟨b,off,none⟩) len cap,stV k ra 4 rc oa os.length oc 0,evV ek eq ev] w (qc9 w (qah len (g k) k [a1,a2,a3,a4] os 0 ev) true):=by
 obtain ⟨hjr,hja,hjb⟩:=hj;obtain ⟨j1,j2,j3⟩:=j4
 have e:qas len k a1 a2 a3 a4 os (k+1) (set4 a1 a2 a3 a4 jr (1)).1 (set4 a1 a2 a3 a4 jr (1)).2.1 (set4 a1 a2 a3 a4 jr (1)).2.2.1 (set4 a1 a2 a3 a4 jr (1)).2.2.2 os 0=qah len (g k) k [a1,a2,a3,a4] os 0 ev:=by
  rw [qb5 hn h60 j1];simp [qah,ho,qkh,hjr,hja,hjb,hlt]
 rw [<- e];refine qbh b off len cap k g ra oa rc oc a1 a2 a3 a4 os ek eq ev w 216 (zZ Tryz.func216 (by kernel_rfl) rfl) (k+1) (set4 a1 a2 a3 a4 jr (1)).1 (set4 a1 a2 a3 a4 jr (1)).2.1 (set4 a1 a2 a3 a4 jr (1)).2.2.1 (set4 a1 a2 a3 a4 jr (1)).2.2.2 os 0 (by unfold maxLen;omega) hb hI h60 h1 h2 hk hD (by rw [ho];exact qr0) (fun o1 c1 B wx hB hO=>?_);rw [hjr,hja,hjb];refine (qly _ _ _ _ _ _ _ _ _ jr ja jb _ _ _ _ _ _ (by omega) (by omega) j1 j2 j3 hlt).mono ?_;rintro e w' ⟨rfl,b⟩;exact qa1 hO b
theorem qsn (b off len cap k:Nat) (g:Nat->I5) (ra oa:Option Addr) (rc oc:Nat) (a1 a2 a3 a4:Int) (os:List Int) (ek eq ev:Int) (w:World) (jr ja jb:Nat) (hj:(g k).r=jr/\(g k).a=ja/\(g k).b=jb) (j4:jr<4/\ja<4/\jb<4) (hn:numB a1=true/\numB a2=true/\numB a3=true/\numB a4=true) (_hz:∀ j,j<4->numB (zi [a1,a2,a3,a4] j)=true) (hl:(len:Int)<=30) (hb:b<w.heap.size) (hI:qan w b off len g) (h60:os.length<=60) (h1:Sl w ra [a1,a2,a3,a4]) (h2:Sl w oa os) (hk:k<len) (hD:canB (nxK g len k [a1,a2,a3,a4] os 0) (nxP g len k [a1,a2,a3,a4] os 0) (nxW g len k [a1,a2,a3,a4] os 0) ek eq ev=true) (ho:(g k).o=5) (hlt:¬ zi [a1,a2,a3,a4] ja<zi [a1,a2,a3,a4] jb):
  Calls Tryz.prog 113 #[.slice (some ⟨b,off,none⟩) len cap,stV k ra 4 rc oa os.length oc 0,evV ek eq ev] w (qc9 w (qah len (g k) k [a1,a2,a3,a4] os 0 ev) true):=by
 obtain ⟨hjr,hja,hjb⟩:=hj;obtain ⟨j1,j2,j3⟩:=j4
 have e:qas len k a1 a2 a3 a4 os (k+1) (set4 a1 a2 a3 a4 jr (0)).1 (set4 a1 a2 a3 a4 jr (0)).2.1 (set4 a1 a2 a3 a4 jr (0)).2.2.1 (set4 a1 a2 a3 a4 jr (0)).2.2.2 os 0=qah len (g k) k [a1,a2,a3,a4] os 0 ev:=by
  rw [qb5 hn h60 j1];simp [qah,ho,qkh,hjr,hja,hjb,hlt]
 rw [<- e];refine qbh b off len cap k g ra oa rc oc a1 a2 a3 a4 os ek eq ev w 216 (zZ Tryz.func216 (by kernel_rfl) rfl) (k+1) (set4 a1 a2 a3 a4 jr (0)).1 (set4 a1 a2 a3 a4 jr (0)).2.1 (set4 a1 a2 a3 a4 jr (0)).2.2.1 (set4 a1 a2 a3 a4 jr (0)).2.2.2 os 0 (by unfold maxLen;omega) hb hI h60 h1 h2 hk hD (by rw [ho];exact qr0) (fun o1 c1 B wx hB hO=>?_);rw [hjr,hja,hjb];refine (qom _ _ _ _ _ _ _ _ _ jr ja jb _ _ _ _ _ _ (by omega) (by omega) j1 j2 j3 hlt).mono ?_;rintro e w' ⟨rfl,b⟩;exact qa1 hO b
theorem qxy (b off len cap k:Nat) (g:Nat->I5) (ra oa:Option Addr) (rc oc:Nat) (a1 a2 a3 a4:Int) (os:List Int) (ek eq ev:Int) (w:World) (jr ja jb:Nat) (hj:(g k).r=jr/\(g k).a=ja/\(g k).b=jb) (j4:jr<4/\ja<4/\jb<4) (hn:numB a1=true/\numB a2=true/\numB a3=true/\numB a4=true) (_hz:∀ j,j<4->numB (zi [a1,a2,a3,a4] j)=true) (hl:(len:Int)<=30) (hb:b<w.heap.size) (hI:qan w b off len g) (h60:os.length<=60) (h1:Sl w ra [a1,a2,a3,a4]) (h2:Sl w oa os) (hk:k<len) (hD:canB (nxK g len k [a1,a2,a3,a4] os 0) (nxP g len k [a1,a2,a3,a4] os 0) (nxW g len k [a1,a2,a3,a4] os 0) ek eq ev=true) (ho:(g k).o=6):
  Calls Tryz.prog 113 #[.slice (some ⟨b,off,none⟩) len cap,stV k ra 4 rc oa os.length oc 0,evV ek eq ev] w (qc9 w (qah len (g k) k [a1,a2,a3,a4] os 0 ev) true):=by
 obtain ⟨hjr,hja,hjb⟩:=hj;obtain ⟨j1,j2,j3⟩:=j4
 have e:qas len k a1 a2 a3 a4 os (k+1) a1 a2 a3 a4 os 0=qah len (g k) k [a1,a2,a3,a4] os 0 ev:=by
  rw [qd2 hn h60];simp [qah,ho]
 rw [<- e];refine qbh b off len cap k g ra oa rc oc a1 a2 a3 a4 os ek eq ev w 217 (zZ Tryz.func217 (by kernel_rfl) rfl) (k+1) a1 a2 a3 a4 os 0 (by unfold maxLen;omega) hb hI h60 h1 h2 hk hD (by rw [ho];exact qw0) (fun o1 c1 B wx hB hO=>?_);rw [hjr,hja,hjb];refine (qvn _ _ _ _ _ _ _ _ _ jr ja jb _ _ _ _ _ _ (by omega) (by omega)).mono ?_;rintro e w' ⟨rfl,b⟩;exact qa1 hO b
theorem qxz (b off len cap k:Nat) (g:Nat->I5) (ra oa:Option Addr) (rc oc:Nat) (a1 a2 a3 a4:Int) (os:List Int) (ek eq ev:Int) (w:World) (jr ja jb:Nat) (hj:(g k).r=jr/\(g k).a=ja/\(g k).b=jb) (j4:jr<4/\ja<4/\jb<4) (hn:numB a1=true/\numB a2=true/\numB a3=true/\numB a4=true) (_hz:∀ j,j<4->numB (zi [a1,a2,a3,a4] j)=true) (hl:(len:Int)<=30) (hb:b<w.heap.size) (hI:qan w b off len g) (h60:os.length<=60) (h1:Sl w ra [a1,a2,a3,a4]) (h2:Sl w oa os) (hk:k<len) (hD:canB (nxK g len k [a1,a2,a3,a4] os 0) (nxP g len k [a1,a2,a3,a4] os 0) (nxW g len k [a1,a2,a3,a4] os 0) ek eq ev=true) (ho:(g k).o=7) (hv:numB ev=true):
  Calls Tryz.prog 113 #[.slice (some ⟨b,off,none⟩) len cap,stV k ra 4 rc oa os.length oc 0,evV ek eq ev] w (qc9 w (qah len (g k) k [a1,a2,a3,a4] os 0 ev) true):=by
 obtain ⟨hjr,hja,hjb⟩:=hj;obtain ⟨j1,j2,j3⟩:=j4
 have e:qas len k a1 a2 a3 a4 os (k+1) (set4 a1 a2 a3 a4 jr (ev)).1 (set4 a1 a2 a3 a4 jr (ev)).2.1 (set4 a1 a2 a3 a4 jr (ev)).2.2.1 (set4 a1 a2 a3 a4 jr (ev)).2.2.2 os 0=qah len (g k) k [a1,a2,a3,a4] os 0 ev:=by
  rw [qb5 hn h60 j1,if_pos hv];simp [qah,ho,hjr]
 rw [<- e];refine qbh b off len cap k g ra oa rc oc a1 a2 a3 a4 os ek eq ev w 218 (zZ Tryz.func218 (by kernel_rfl) rfl) (k+1) (set4 a1 a2 a3 a4 jr (ev)).1 (set4 a1 a2 a3 a4 jr (ev)).2.1 (set4 a1 a2 a3 a4 jr (ev)).2.2.1 (set4 a1 a2 a3 a4 jr (ev)).2.2.2 os 0 (by unfold maxLen;omega) hb hI h60 h1 h2 hk hD (by rw [ho];exact qw1) (fun o1 c1 B wx hB hO=>?_);rw [hjr,hja,hjb];refine (qvo _ _ _ _ _ _ _ _ _ jr ja jb _ _ _ _ _ _ (by omega) (by omega) j1).mono ?_;rintro e w' ⟨rfl,b⟩;exact qa1 hO b
theorem qv9 (b off len cap k:Nat) (g:Nat->I5) (ra oa:Option Addr) (rc oc:Nat) (a1 a2 a3 a4:Int) (os:List Int) (ek eq ev:Int) (w:World) (jr ja jb:Nat) (hj:(g k).r=jr/\(g k).a=ja/\(g k).b=jb) (j4:jr<4/\ja<4/\jb<4) (hn:numB a1=true/\numB a2=true/\numB a3=true/\numB a4=true) (_hz:∀ j,j<4->numB (zi [a1,a2,a3,a4] j)=true) (hl:(len:Int)<=30) (hb:b<w.heap.size) (hI:qan w b off len g) (h60:os.length<=60) (h1:Sl w ra [a1,a2,a3,a4]) (h2:Sl w oa os) (hk:k<len) (hD:canB (nxK g len k [a1,a2,a3,a4] os 0) (nxP g len k [a1,a2,a3,a4] os 0) (nxW g len k [a1,a2,a3,a4] os 0) ek eq ev=true) (ho:(g k).o=8):
  Calls Tryz.prog 113 #[.slice (some ⟨b,off,none⟩) len cap,stV k ra 4 rc oa os.length oc 0,evV ek eq ev] w (qc9 w (qah len (g k) k [a1,a2,a3,a4] os 0 ev) true):=by
 obtain ⟨hjr,hja,hjb⟩:=hj;obtain ⟨j1,j2,j3⟩:=j4
 have e:qas len k a1 a2 a3 a4 os (k+1) a1 a2 a3 a4 (os ++ [ev]) 0=qah len (g k) k [a1,a2,a3,a4] os 0 ev:=by
  by_cases h:os.length=60
  ·rw [qoe (by simp;omega)]
   simp [qah,ho,h]
  ·rw [qd2 hn (by simp;omega)]
   simp [qah,ho,h]
 rw [<- e];refine qbh b off len cap k g ra oa rc oc a1 a2 a3 a4 os ek eq ev w 219 (zZ Tryz.func219 (by kernel_rfl) rfl) (k+1) a1 a2 a3 a4 (os ++ [ev]) 0 (by unfold maxLen;omega) hb hI h60 h1 h2 hk hD (by rw [ho];exact qw2) (fun o1 c1 B wx hB hO=>?_);rw [hjr,hja,hjb];refine (qty _ _ _ _ _ _ _ os _ jr ja jb _ _ _ _ _ B wx (by omega) (by omega) (by omega) hB hO).mono ?_;rintro e w' ⟨oa',oc',rfl,p1,p2,p3,p4⟩;have e1:(os ++ [ev]).length=os.length+1:=by simp
 unfold qv2;rw [e1];exact ⟨oa',oc',rfl,p1,p2,p3,p4⟩
theorem qxx (b off len cap k:Nat) (g:Nat->I5) (ra oa:Option Addr) (rc oc:Nat) (a1 a2 a3 a4:Int) (os:List Int) (ek eq ev:Int) (w:World) (jr ja jb:Nat) (hj:(g k).r=jr/\(g k).a=ja/\(g k).b=jb) (j4:jr<4/\ja<4/\jb<4) (hn:numB a1=true/\numB a2=true/\numB a3=true/\numB a4=true) (_hz:∀ j,j<4->numB (zi [a1,a2,a3,a4] j)=true) (hl:(len:Int)<=30) (hb:b<w.heap.size) (hI:qan w b off len g) (h60:os.length<=60) (h1:Sl w ra [a1,a2,a3,a4]) (h2:Sl w oa os) (hk:k<len) (hD:canB (nxK g len k [a1,a2,a3,a4] os 0) (nxP g len k [a1,a2,a3,a4] os 0) (nxW g len k [a1,a2,a3,a4] os 0) ek eq ev=true) (ho:(g k).o=9) (hb9:belB (g k).n len=true):
  Calls Tryz.prog 113 #[.slice (some ⟨b,off,none⟩) len cap,stV k ra 4 rc oa os.length oc 0,evV ek eq ev] w (qc9 w (qah len (g k) k [a1,a2,a3,a4] os 0 ev) true):=by
 obtain ⟨hjr,hja,hjb⟩:=hj;obtain ⟨j1,j2,j3⟩:=j4
 have e:qas len k a1 a2 a3 a4 os (g k).n a1 a2 a3 a4 os 0=qah len (g k) k [a1,a2,a3,a4] os 0 ev:=by
  rw [qgl hn h60 hb9];simp [qah,ho]
 rw [<- e];refine qbh b off len cap k g ra oa rc oc a1 a2 a3 a4 os ek eq ev w 220 (zZ Tryz.func220 (by kernel_rfl) rfl) (g k).n a1 a2 a3 a4 os 0 (by unfold maxLen;omega) hb hI h60 h1 h2 hk hD (by rw [ho];exact qw3) (fun o1 c1 B wx hB hO=>?_);rw [hjr,hja,hjb];refine (qol _ _ _ _ _ _ _ _ _ jr ja jb _ _ _ _ _ _ (by omega) (by omega)).mono ?_;rintro e w' ⟨rfl,b⟩;exact qa1 hO b
theorem qpm (b off len cap k:Nat) (g:Nat->I5) (ra oa:Option Addr) (rc oc:Nat) (a1 a2 a3 a4:Int) (os:List Int) (ek eq ev:Int) (w:World) (jr ja jb:Nat) (hj:(g k).r=jr/\(g k).a=ja/\(g k).b=jb) (j4:jr<4/\ja<4/\jb<4) (hn:numB a1=true/\numB a2=true/\numB a3=true/\numB a4=true) (_hz:∀ j,j<4->numB (zi [a1,a2,a3,a4] j)=true) (hl:(len:Int)<=30) (hb:b<w.heap.size) (hI:qan w b off len g) (h60:os.length<=60) (h1:Sl w ra [a1,a2,a3,a4]) (h2:Sl w oa os) (hk:k<len) (hD:canB (nxK g len k [a1,a2,a3,a4] os 0) (nxP g len k [a1,a2,a3,a4] os 0) (nxW g len k [a1,a2,a3,a4] os 0) ek eq ev=true) (ho:(g k).o=10) (hb9:belB (g k).n len=true) (hz0:zi [a1,a2,a3,a4] ja=0):
  Calls Tryz.prog 113 #[.slice (some ⟨b,off,none⟩) len cap,stV k ra 4 rc oa os.length oc 0,evV ek eq ev] w (qc9 w (qah len (g k) k [a1,a2,a3,a4] os 0 ev) true):=by
 obtain ⟨hjr,hja,hjb⟩:=hj;obtain ⟨j1,j2,j3⟩:=j4
 have e:qas len k a1 a2 a3 a4 os (g k).n a1 a2 a3 a4 os 0=qah len (g k) k [a1,a2,a3,a4] os 0 ev:=by
  rw [qgl hn h60 hb9];simp [qah,ho,hja,hz0]
 rw [<- e];refine qbh b off len cap k g ra oa rc oc a1 a2 a3 a4 os ek eq ev w 221 (zZ Tryz.func221 (by kernel_rfl) rfl) (g k).n a1 a2 a3 a4 os 0 (by unfold maxLen;omega) hb hI h60 h1 h2 hk hD (by rw [ho];exact qok) (fun o1 c1 B wx hB hO=>?_);rw [hjr,hja,hjb];refine (qlz _ _ _ _ _ _ _ _ _ jr ja jb _ _ _ _ _ _ (by omega) (by omega) j2 (by simp [hz0])).mono ?_;rintro e w' ⟨rfl,b⟩;exact qa1 hO b
theorem qso (b off len cap k:Nat) (g:Nat->I5) (ra oa:Option Addr) (rc oc:Nat) (a1 a2 a3 a4:Int) (os:List Int) (ek eq ev:Int) (w:World) (jr ja jb:Nat) (hj:(g k).r=jr/\(g k).a=ja/\(g k).b=jb) (j4:jr<4/\ja<4/\jb<4) (hn:numB a1=true/\numB a2=true/\numB a3=true/\numB a4=true) (_hz:∀ j,j<4->numB (zi [a1,a2,a3,a4] j)=true) (hl:(len:Int)<=30) (hb:b<w.heap.size) (hI:qan w b off len g) (h60:os.length<=60) (h1:Sl w ra [a1,a2,a3,a4]) (h2:Sl w oa os) (hk:k<len) (hD:canB (nxK g len k [a1,a2,a3,a4] os 0) (nxP g len k [a1,a2,a3,a4] os 0) (nxW g len k [a1,a2,a3,a4] os 0) ek eq ev=true) (ho:(g k).o=10) (hz0:¬ zi [a1,a2,a3,a4] ja=0):
  Calls Tryz.prog 113 #[.slice (some ⟨b,off,none⟩) len cap,stV k ra 4 rc oa os.length oc 0,evV ek eq ev] w (qc9 w (qah len (g k) k [a1,a2,a3,a4] os 0 ev) true):=by
 obtain ⟨hjr,hja,hjb⟩:=hj;obtain ⟨j1,j2,j3⟩:=j4
 have e:qas len k a1 a2 a3 a4 os (k+1) a1 a2 a3 a4 os 0=qah len (g k) k [a1,a2,a3,a4] os 0 ev:=by
  rw [qd2 hn h60];simp [qah,ho,hja,hz0]
 rw [<- e];refine qbh b off len cap k g ra oa rc oc a1 a2 a3 a4 os ek eq ev w 221 (zZ Tryz.func221 (by kernel_rfl) rfl) (k+1) a1 a2 a3 a4 os 0 (by unfold maxLen;omega) hb hI h60 h1 h2 hk hD (by rw [ho];exact qok) (fun o1 c1 B wx hB hO=>?_);rw [hjr,hja,hjb];refine (qon _ _ _ _ _ _ _ _ _ jr ja jb _ _ _ _ _ _ (by omega) (by omega) j2 (by simpa using hz0)).mono ?_;rintro e w' ⟨rfl,b⟩;exact qa1 hO b
theorem qyq (b off len cap k:Nat) (g:Nat->I5) (ra oa:Option Addr) (rc oc:Nat) (a1 a2 a3 a4:Int) (os:List Int) (ek eq ev:Int) (w:World) (jr ja jb:Nat) (hj:(g k).r=jr/\(g k).a=ja/\(g k).b=jb) (j4:jr<4/\ja<4/\jb<4) (hn:numB a1=true/\numB a2=true/\numB a3=true/\numB a4=true) (_hz:∀ j,j<4->numB (zi [a1,a2,a3,a4] j)=true) (hl:(len:Int)<=30) (hb:b<w.heap.size) (hI:qan w b off len g) (h60:os.length<=60) (h1:Sl w ra [a1,a2,a3,a4]) (h2:Sl w oa os) (hk:k<len) (hD:canB (nxK g len k [a1,a2,a3,a4] os 0) (nxP g len k [a1,a2,a3,a4] os 0) (nxW g len k [a1,a2,a3,a4] os 0) ek eq ev=true) (ho:(g k).o=11):
  Calls Tryz.prog 113 #[.slice (some ⟨b,off,none⟩) len cap,stV k ra 4 rc oa os.length oc 0,evV ek eq ev] w (qc9 w (qah len (g k) k [a1,a2,a3,a4] os 0 ev) true):=by
 obtain ⟨hjr,hja,hjb⟩:=hj;obtain ⟨j1,j2,j3⟩:=j4
 have e:qas len k a1 a2 a3 a4 os k a1 a2 a3 a4 os 1=qah len (g k) k [a1,a2,a3,a4] os 0 ev:=by
  rw [qgl hn h60 (by simp [belB];omega)];simp [qah,ho]
 rw [<- e];refine qbh b off len cap k g ra oa rc oc a1 a2 a3 a4 os ek eq ev w 222 (zZ Tryz.func222 (by kernel_rfl) rfl) k a1 a2 a3 a4 os 1 (by unfold maxLen;omega) hb hI h60 h1 h2 hk hD (by rw [ho];exact qvm) (fun o1 c1 B wx hB hO=>?_);rw [hjr,hja,hjb];refine (qw5 _ _ _ _ _ _ _ _ _ jr ja jb _ _ _ _ _ _ (by omega) (by omega)).mono ?_;rintro e w' ⟨rfl,b⟩;exact qa1 hO b
theorem qk8 {x:I5} {len:Nat} (h:qaj x.o x.r x.a x.b x.n len 4=true) (h9:x.o=9\/x.o=10):belB x.n len=true:=by
 simp only [qaj,Bool.and_eq_true] at h;have h5:=h.2;unfold qa8 at h5
 rcases h9 with h9 | h9 <;> (rw [h9] at h5;simp [belB] at h5 ⊢;omega)
theorem qv8 (b off len cap:Nat) (g:Nat->I5) (p code:Int) (ra oa:Option Addr) (rc oc:Nat) (rs os:List Int) (ek eq ev:Int) (w:World) (hlen:len<=maxLen) (hb:b<w.heap.size) (hI:qan w b off len g) (hr:rs.length<=1048576) (ho:os.length<=1048576) (h1:Sl w ra rs) (h2:Sl w oa os) (hP:qac g len 4=true):
  Calls Tryz.prog 113 #[.slice (some ⟨b,off,none⟩) len cap,stV p ra rs.length rc oa os.length oc code,evV ek eq ev] w (qc9 w (doS g len p rs os code ek eq ev) (doB g len p rs os code ek eq ev)):=by
 rcases zK (doB g len p rs os code ek eq ev) with hB | hB
 case inr=>
  have hS:doS g len p rs os code ek eq ev=⟨p,rs,os,code⟩:=by
   unfold doS;rw [if_neg (by rw [hB];decide)]
  rw [hB,hS];exact qxw b off len cap g p code ra oa rc oc rs os ek eq ev w hlen hb hI hr ho h1 h2 hB hP
 have hR:=qdr hB;obtain ⟨hp,hs,rfl⟩:=qbb hR;obtain ⟨⟨a1,a2,a3,a4,rfl,n1,n2,n3,n4⟩,⟨k,rfl,hk⟩,h60,-⟩:=qck hs
 have hS:doS g len k [a1,a2,a3,a4] os 0 ek eq ev=qah len (g k) k [a1,a2,a3,a4] os 0 ev:=by
  unfold doS;rw [if_pos hB,Int.toNat_natCast]
 rw [hB,hS]
 have hl:(len:Int)<=30:=by
  simp only [qac,Bool.and_eq_true] at hp;have:=hp.2.1;simp [inB] at this;omega
 have hins:=qbt hp hk;obtain ⟨⟨o1,o11⟩,⟨r0,r3⟩,⟨m0,m3⟩,⟨q0,q3⟩⟩:=qcb hins;have hn:numB a1=true/\numB a2=true/\numB a3=true/\numB a4=true:=⟨n1,n2,n3,n4⟩
 have hz:∀ j,j<4->numB (zi [a1,a2,a3,a4] j)=true:=fun j hj=>by
  match j,hj with
  | 0,_=>exact n1
  | 1,_=>exact n2
  | 2,_=>exact n3
  | 3,_=>exact n4
 have hj:(g k).r=((g k).r.toNat:Int)/\(g k).a=((g k).a.toNat:Int)/\(g k).b=((g k).b.toNat:Int):=⟨by omega,by omega,by omega⟩
 have j4:(g k).r.toNat<4/\(g k).a.toNat<4/\(g k).b.toNat<4:=⟨by omega,by omega,by omega⟩
 rcases qe3 (g k).o with h | h | h | h | h | h | h | h | h | h | h | h
 ·omega
 ·exact qys b off len cap k g ra oa rc oc a1 a2 a3 a4 os ek eq ev w _ _ _ hj j4 hn hz hl hb hI h60 h1 h2 hk hB h
 ·exact qyp b off len cap k g ra oa rc oc a1 a2 a3 a4 os ek eq ev w _ _ _ hj j4 hn hz hl hb hI h60 h1 h2 hk hB h
 ·exact qyt b off len cap k g ra oa rc oc a1 a2 a3 a4 os ek eq ev w _ _ _ hj j4 hn hz hl hb hI h60 h1 h2 hk hB h
 ·exact qyr b off len cap k g ra oa rc oc a1 a2 a3 a4 os ek eq ev w _ _ _ hj j4 hn hz hl hb hI h60 h1 h2 hk hB h
 ·by_cases hlt:zi [a1,a2,a3,a4] (g k).a.toNat<zi [a1,a2,a3,a4] (g k).b.toNat
  ·exact qpl b off len cap k g ra oa rc oc a1 a2 a3 a4 os ek eq ev w _ _ _ hj j4 hn hz hl hb hI h60 h1 h2 hk hB h hlt
  ·exact qsn b off len cap k g ra oa rc oc a1 a2 a3 a4 os ek eq ev w _ _ _ hj j4 hn hz hl hb hI h60 h1 h2 hk hB h hlt
 ·exact qxy b off len cap k g ra oa rc oc a1 a2 a3 a4 os ek eq ev w _ _ _ hj j4 hn hz hl hb hI h60 h1 h2 hk hB h
 ·have hv:numB ev=true:=by
   have hc:=hB;unfold doB nxK at hc;rw [if_pos hR,Int.toNat_natCast,h,show evK 7=3 from rfl,qib] at hc;simp only [Bool.and_eq_true] at hc;exact hc.1.2
  exact qxz b off len cap k g ra oa rc oc a1 a2 a3 a4 os ek eq ev w _ _ _ hj j4 hn hz hl hb hI h60 h1 h2 hk hB h hv
 ·exact qv9 b off len cap k g ra oa rc oc a1 a2 a3 a4 os ek eq ev w _ _ _ hj j4 hn hz hl hb hI h60 h1 h2 hk hB h
 ·exact qxx b off len cap k g ra oa rc oc a1 a2 a3 a4 os ek eq ev w _ _ _ hj j4 hn hz hl hb hI h60 h1 h2 hk hB h (qk8 hins (.inl h))
 ·by_cases hz0:zi [a1,a2,a3,a4] (g k).a.toNat=0
  ·exact qpm b off len cap k g ra oa rc oc a1 a2 a3 a4 os ek eq ev w _ _ _ hj j4 hn hz hl hb hI h60 h1 h2 hk hB h (qk8 hins (.inr h)) hz0
  ·exact qso b off len cap k g ra oa rc oc a1 a2 a3 a4 os ek eq ev w _ _ _ hj j4 hn hz hl hb hI h60 h1 h2 hk hB h hz0
 ·exact qyq b off len cap k g ra oa rc oc a1 a2 a3 a4 os ek eq ev w _ _ _ hj j4 hn hz hl hb hI h60 h1 h2 hk hB h
