import Derived.Test.YtpnlfccaggfgpaaGreatDoorEh0
import Derived.Test.YtpnlfccaggfgpaaGreatDoorEh9
import Derived.Laws.EntriesVeiled
import Derived.Test.YtpnlfccaggfgpaaGreatDoorEh8
import Derived.Test.YtpnlfccaggfgpaaGreatDoorEh10
namespace Go.Proofs.YtpnlfccaggfgpaaGreatDoor
set_option maxRecDepth 100000
set_option maxHeartbeats 4000000
open Go.RowKit
theorem stepOf_1 (w:World):
  Calls Tryz.prog 102 #[.int .i64 1] w fun e w'=>e=.returned (.func (.func 126) #[] #[])/\Below w.heap.size w w':=by
 go_enter Tryz.func102,Tryz.ntmps102
 go_wp2_with fail
 refine bodyPost_ret (v:=.func (.func 126) #[] #[]) (by simp [results,Tryz.results102,go_sem]) rfl ⟨rfl,?_⟩
 go_grown
theorem stepOf_2 (w:World):
  Calls Tryz.prog 102 #[.int .i64 2] w fun e w'=>e=.returned (.func (.func 127) #[] #[])/\Below w.heap.size w w':=by
 go_enter Tryz.func102,Tryz.ntmps102
 go_wp2_with fail
 refine bodyPost_ret (v:=.func (.func 127) #[] #[]) (by simp [results,Tryz.results102,go_sem]) rfl ⟨rfl,?_⟩
 go_grown
theorem stepOf_3 (w:World):
  Calls Tryz.prog 102 #[.int .i64 3] w fun e w'=>e=.returned (.func (.func 128) #[] #[])/\Below w.heap.size w w':=by
 go_enter Tryz.func102,Tryz.ntmps102
 go_wp2_with fail
 refine bodyPost_ret (v:=.func (.func 128) #[] #[]) (by simp [results,Tryz.results102,go_sem]) rfl ⟨rfl,?_⟩
 go_grown
theorem stepOf_4 (w:World):
  Calls Tryz.prog 102 #[.int .i64 4] w fun e w'=>e=.returned (.func (.func 129) #[] #[])/\Below w.heap.size w w':=by
 go_enter Tryz.func102,Tryz.ntmps102
 go_wp2_with fail
 refine bodyPost_ret (v:=.func (.func 129) #[] #[]) (by simp [results,Tryz.results102,go_sem]) rfl ⟨rfl,?_⟩
 go_grown
theorem stepOf_5 (w:World):
  Calls Tryz.prog 102 #[.int .i64 5] w fun e w'=>e=.returned (.func (.func 130) #[] #[])/\Below w.heap.size w w':=by
 go_enter Tryz.func102,Tryz.ntmps102
 go_wp2_with fail
 refine bodyPost_ret (v:=.func (.func 130) #[] #[]) (by simp [results,Tryz.results102,go_sem]) rfl ⟨rfl,?_⟩
 go_grown
theorem stepOf_6 (w:World):
  Calls Tryz.prog 102 #[.int .i64 6] w fun e w'=>e=.returned (.func (.func 131) #[] #[])/\Below w.heap.size w w':=by
 go_enter Tryz.func102,Tryz.ntmps102
 go_wp2_with fail
 refine bodyPost_ret (v:=.func (.func 131) #[] #[]) (by simp [results,Tryz.results102,go_sem]) rfl ⟨rfl,?_⟩
 go_grown
theorem stepOf_7 (w:World):
  Calls Tryz.prog 102 #[.int .i64 7] w fun e w'=>e=.returned (.func (.func 132) #[] #[])/\Below w.heap.size w w':=by
 go_enter Tryz.func102,Tryz.ntmps102
 go_wp2_with fail
 refine bodyPost_ret (v:=.func (.func 132) #[] #[]) (by simp [results,Tryz.results102,go_sem]) rfl ⟨rfl,?_⟩
 go_grown
theorem stepOf_8 (w:World):
  Calls Tryz.prog 102 #[.int .i64 8] w fun e w'=>e=.returned (.func (.func 133) #[] #[])/\Below w.heap.size w w':=by
 go_enter Tryz.func102,Tryz.ntmps102
 go_wp2_with fail
 refine bodyPost_ret (v:=.func (.func 133) #[] #[]) (by simp [results,Tryz.results102,go_sem]) rfl ⟨rfl,?_⟩
 go_grown
theorem stepOf_9 (w:World):
  Calls Tryz.prog 102 #[.int .i64 9] w fun e w'=>e=.returned (.func (.func 134) #[] #[])/\Below w.heap.size w w':=by
 go_enter Tryz.func102,Tryz.ntmps102
 go_wp2_with fail
 refine bodyPost_ret (v:=.func (.func 134) #[] #[]) (by simp [results,Tryz.results102,go_sem]) rfl ⟨rfl,?_⟩
 go_grown
theorem stepOf_10 (w:World):
  Calls Tryz.prog 102 #[.int .i64 10] w fun e w'=>e=.returned (.func (.func 135) #[] #[])/\Below w.heap.size w w':=by
 go_enter Tryz.func102,Tryz.ntmps102
 go_wp2_with fail
 refine bodyPost_ret (v:=.func (.func 135) #[] #[]) (by simp [results,Tryz.results102,go_sem]) rfl ⟨rfl,?_⟩
 go_grown
theorem stepOf_11 (w:World):
  Calls Tryz.prog 102 #[.int .i64 11] w fun e w'=>e=.returned (.func (.func 136) #[] #[])/\Below w.heap.size w w':=by
 go_enter Tryz.func102,Tryz.ntmps102
 go_wp2_with fail
 refine bodyPost_ret (v:=.func (.func 136) #[] #[]) (by simp [results,Tryz.results102,go_sem]) rfl ⟨rfl,?_⟩
 go_grown
theorem canCome_any (nk np nv k q v:Int) (w:World):
  Calls Tryz.prog 100 #[evV nk np nv,evV k q v] w fun e w'=>e=.returned (.bool (canB nk np nv k q v))/\Below w.heap.size w w':=by
 have he:=fun wx=>eql_ev k q v nk np nv wx
 by_cases c1:nk=3
 case neg=>
  have c1':(nk != 3)=true:=by simpa using c1
  by_cases c2:nk=0
  ·subst c2
   have hv:Hid (canB 0 np nv k q v=false):=by simp [Hid,canB]
   go_enter Tryz.func100,Tryz.ntmps100
   go_wp2_with (first|(go_at_call 125;refine (isNum_any _ _).mono ?_;rintro e w' ⟨rfl,rfl⟩)|(go_at_call 52;refine (isBelow_any _ _ _).mono ?_;rintro e w' ⟨rfl,rfl⟩))
   refine bodyPost_ret (v:=.bool (false)) (by simp [results,Tryz.results100,go_sem]) rfl ⟨by rw [hv.out],?_⟩
   go_grown
  ·have c2':(nk != 0)=true:=by simpa using c2
   have hv:Hid (canB nk np nv k q v=evEqB k q v nk np nv):=by simp [Hid,canB,evEqB,c1,c2']
   clear c1 c2
   go_enter Tryz.func100,Tryz.ntmps100
   go_wp2_with (first|(go_at_call 125;refine (isNum_any _ _).mono ?_;rintro e w' ⟨rfl,rfl⟩)|(go_at_call 52;refine (isBelow_any _ _ _).mono ?_;rintro e w' ⟨rfl,rfl⟩))
   refine bodyPost_ret (v:=.bool (evEqB k q v nk np nv)) (by simp [results,Tryz.results100,go_sem]) rfl ⟨by rw [hv.out],?_⟩
   go_grown
 subst c1
 by_cases c2:k=3
 case neg=>
  have c2':(k != 3)=true:=by simpa using c2
  have hv:Hid (canB 3 np nv k q v=false):=by simp [Hid,canB,c2]
  clear c2
  go_enter Tryz.func100,Tryz.ntmps100
  go_wp2_with (first|(go_at_call 125;refine (isNum_any _ _).mono ?_;rintro e w' ⟨rfl,rfl⟩)|(go_at_call 52;refine (isBelow_any _ _ _).mono ?_;rintro e w' ⟨rfl,rfl⟩))
  refine bodyPost_ret (v:=.bool (false)) (by simp [results,Tryz.results100,go_sem]) rfl ⟨by rw [hv.out],?_⟩
  go_grown
 subst c2
 rcases zK (numB v) with c3 | c3
 case inr=>
  have hv:Hid (canB 3 np nv 3 q v=false):=by simp [Hid,canB,c3]
  have c3':inB v (-1000000000) 1000000000=false:=c3
  clear c3
  go_enter Tryz.func100,Tryz.ntmps100
  go_wp2_with (first|(go_at_call 125;refine (isNum_any _ _).mono ?_;rintro e w' ⟨rfl,rfl⟩)|(go_at_call 52;refine (isBelow_any _ _ _).mono ?_;rintro e w' ⟨rfl,rfl⟩))
  refine bodyPost_ret (v:=.bool (false)) (by simp [results,Tryz.results100,go_sem]) rfl ⟨by rw [hv.out],?_⟩
  go_grown
 by_cases c4:np=9
 ·subst c4
  have hv:Hid (canB 3 9 nv 3 q v=belB q 4):=by simp [Hid,canB,c3]
  have c3':inB v (-1000000000) 1000000000=true:=c3
  clear c3
  go_enter Tryz.func100,Tryz.ntmps100
  go_wp2_with (first|(go_at_call 125;refine (isNum_any _ _).mono ?_;rintro e w' ⟨rfl,rfl⟩)|(go_at_call 52;refine (isBelow_any _ _ _).mono ?_;rintro e w' ⟨rfl,rfl⟩))
  refine bodyPost_ret (v:=.bool (belB q 4)) (by simp [results,Tryz.results100,go_sem]) rfl ⟨by rw [hv.out],?_⟩
  go_grown
 ·have c4':(np == 9)=false:=by simpa using c4
  have hv:Hid (canB 3 np nv 3 q v=(q == np)):=by simp [Hid,canB,c3,c4]
  have c3':inB v (-1000000000) 1000000000=true:=c3
  clear c3 c4
  go_enter Tryz.func100,Tryz.ntmps100
  go_wp2_with (first|(go_at_call 125;refine (isNum_any _ _).mono ?_;rintro e w' ⟨rfl,rfl⟩)|(go_at_call 52;refine (isBelow_any _ _ _).mono ?_;rintro e w' ⟨rfl,rfl⟩))
  refine bodyPost_ret (v:=.bool (q == np)) (by simp [results,Tryz.results100,go_sem]) rfl ⟨by rw [hv.out],?_⟩
  go_grown
open Go.Sort
theorem neq_regs (a b c d a' b' c' d':Int) (w:World):(binOp .neq 123 (regV a b c d) (regV a' b' c' d')).run Tryz.prog w=.ok (.bool (!regEqB a b c d a' b' c' d')) w:=by
 have h:=eql_regs a b c d a' b' c' d' w
 simp only [binOp,Sem.run_bind,Sem.run_pure] at h ⊢
 revert h
 generalize Sem.run Tryz.prog (Op.equal 123 (regV a b c d) (regV a' b' c' d')) w=r
 cases r <;> simp (config:={ contextual:=true }) [Result.andThen]
theorem diF_w1 {w W:World} {v0:Int} {v1:Int} {v2:Int} {v3:Int} {v4:Int} {v5:Option Addr} {v6:Nat} {v7:Nat} {v8:Int} {v9:Int} {v10:Int} {v11:Int} {v12:Int} {v13:Int} {v14:Option Addr} {v15:Nat} {v16:Nat} {v17:Int} (hW:(((w.alloc (oQ2 v0 v1 v2 v3 v4 v5 v6 v7 v8)).alloc (oQ2 v9 v10 v11 v12 v13 v14 v15 v16 v17)).alloc (zQ1))=W):W.cell? ⟨w.heap.size,0,none⟩=some (.int .i64 v0)/\W.cell? ⟨w.heap.size,1,none⟩=some (.int .i64 v1)/\W.cell? ⟨w.heap.size,2,none⟩=some (.int .i64 v2)/\W.cell? ⟨w.heap.size,3,none⟩=some (.int .i64 v3)/\W.cell? ⟨w.heap.size,4,none⟩=some (.int .i64 v4)/\W.cell? ⟨w.heap.size,5,none⟩=some (.slice v5 v6 v7)/\W.cell? ⟨w.heap.size,6,none⟩=some (.int .i64 v8)/\W.cell? ⟨w.heap.size+1,0,none⟩=some (.int .i64 v9)/\W.cell? ⟨w.heap.size+1,1,none⟩=some (.int .i64 v10)/\W.cell? ⟨w.heap.size+1,2,none⟩=some (.int .i64 v11)/\W.cell? ⟨w.heap.size+1,3,none⟩=some (.int .i64 v12)/\W.cell? ⟨w.heap.size+1,4,none⟩=some (.int .i64 v13)/\W.cell? ⟨w.heap.size+1,5,none⟩=some (.slice v14 v15 v16)/\W.cell? ⟨w.heap.size+1,6,none⟩=some (.int .i64 v17)/\W.cell? ⟨w.heap.size+1+1,0,none⟩=some (.int .i64 0)/\W.cell? ⟨w.heap.size+1+1,1,none⟩=some (.int .i64 0)/\W.cell? ⟨w.heap.size+1+1,2,none⟩=some (.int .i64 0)/\W.cell? ⟨w.heap.size+1+1,3,none⟩=some (.int .i64 0)/\W.cell? ⟨w.heap.size+1+1,4,none⟩=some (.int .i64 0)/\W.cell? ⟨w.heap.size+1+1,5,none⟩=some (.slice none 0 0)/\W.cell? ⟨w.heap.size+1+1,6,none⟩=some (.int .i64 0)/\(∀ j,W.frozen? ⟨w.heap.size,j,none⟩=false)/\(∀ j,W.frozen? ⟨w.heap.size+1,j,none⟩=false)/\(∀ j,W.frozen? ⟨w.heap.size+1+1,j,none⟩=false)/\w.heap.size+1+1<W.heap.size/\Below w.heap.size w W:=by
 subst hW
 exact ⟨(zS _ _ (by simp<;>omega)).trans ((zS _ _ (by simp)).trans (by simp)),(zS _ _ (by simp<;>omega)).trans ((zS _ _ (by simp)).trans (by simp)),(zS _ _ (by simp<;>omega)).trans ((zS _ _ (by simp)).trans (by simp)),(zS _ _ (by simp<;>omega)).trans ((zS _ _ (by simp)).trans (by simp)),(zS _ _ (by simp<;>omega)).trans ((zS _ _ (by simp)).trans (by simp)),(zS _ _ (by simp<;>omega)).trans ((zS _ _ (by simp)).trans (by simp)),(zS _ _ (by simp<;>omega)).trans ((zS _ _ (by simp)).trans (by simp)),(zS _ _ (by simp)).trans (zW _ _ _ 0 (by simp)),(zS _ _ (by simp)).trans (zW _ _ _ 1 (by simp)),(zS _ _ (by simp)).trans (zW _ _ _ 2 (by simp)),(zS _ _ (by simp)).trans (zW _ _ _ 3 (by simp)),(zS _ _ (by simp)).trans (zW _ _ _ 4 (by simp)),(zS _ _ (by simp)).trans (zW _ _ _ 5 (by simp)),(zS _ _ (by simp)).trans (zW _ _ _ 6 (by simp)),zW _ _ _ 0 (by simp),zW _ _ _ 1 (by simp),zW _ _ _ 2 (by simp),zW _ _ _ 3 (by simp),zW _ _ _ 4 (by simp),zW _ _ _ 5 (by simp),zW _ _ _ 6 (by simp),fun j=>((bcell (zT _ _)).2 _ _ (by simp<;>omega)).trans (((bcell (zT _ _)).2 _ _ (by simp)).trans (yB _ _ _ j rfl)),fun j=>((bcell (zT _ _)).2 _ _ (by simp)).trans (yB _ _ _ j (by simp)),fun j=>yB _ _ _ j (by simp),by simp,by go_grown⟩
theorem settled_regs (p a b c d:Int) (oa:Option Addr) (on oc:Nat) (code:Int) (p' a' b' c' d':Int) (oa':Option Addr) (on' oc':Nat) (code':Int) (n:Nat) (w:World) (hr:regsB [a',b',c',d']=false):
  Calls Tryz.prog 103 #[dV p a b c d oa on oc code,dV p' a' b' c' d' oa' on' oc' code',.int .i64 n] w fun e w'=>e=.returned (dV p a b c d oa on oc 2)/\Below w.heap.size w w':=by
 have he:∀ wx,(binOp .neq 123 (regV a' b' c' d') (regV (clamp a') (clamp b') (clamp c') (clamp d'))).run Tryz.prog wx=.ok (.bool true) wx:=fun wx=>by rw [neq_regs,regEqB_clamp,hr];rfl
 go_enter Tryz.func103,Tryz.ntmps103
 go_wp2_with fail
 generalize hW:(((w.alloc (oQ2 p a b c d oa on oc code)).alloc (oQ2 p' a' b' c' d' oa' on' oc' code')).alloc (zQ1))=W at *
 obtain ⟨k0,k1,k2,k3,k4,k5,k6,x0,x1,x2,x3,x4,x5,x6,r0,r1,r2,r3,r4,r5,r6,kf,xf,rf,l2,BW'⟩:=diF_w1 hW
 have BW:Hid (Below w.heap.size w W):=BW'
 clear BW'
 clear hW
 have l0:w.heap.size<W.heap.size:=by omega
 have l1:w.heap.size+1<W.heap.size:=by omega
 have x0':=cell_regrown x0
 have x1':=cell_regrown x1
 have x2':=cell_regrown x2
 have x3':=cell_regrown x3
 have x4':=cell_regrown x4
 have x5':=cell_regrown x5
 have x6':=cell_regrown x6
 refine wp_region_quiet_below (by kernel_rfl) (by kernel_rfl) ?_
 repeat (quiet_step (first|(go_at_call 122;exact Calls.regrown_of (held_any _ _ _ _ _))))
 refine wpQuiet_nil ?_
 intro _ hw'
 obtain ⟨⟨dq,osq⟩,hw''⟩:=hw'
 subst hw''
 have b3:=below_regrown W dq osq
 have B3:Hid (Below w.heap.size w (grow (redrawn W dq) osq)):=BW.out.trans (b3.mono BW.out.size)
 obtain ⟨hc3,hf3⟩:=bcell b3
 generalize grow (redrawn W dq) osq=w3 at *
 clear b3 x0' x1' x2' x3' x4' x5' x6' he BW hr
 go_wp2_with (go_at_call 52;refine (isBelow_any _ _ _).mono ?_;rintro e w' ⟨rfl,rfl⟩)
 refine bodyPost_ret (v:=dV p a b c d oa on oc 2) (by simp [results,Tryz.results103,go_sem,hc3,l2,r0,r1,r2,r3,r4,r5,r6]) rfl ⟨rfl,?_⟩
 have:=B3.out
 go_grown
theorem settled_full (p a b c d:Int) (oa:Option Addr) (on oc:Nat) (code:Int) (p' a' b' c' d':Int) (oa':Option Addr) (on' oc':Nat) (code':Int) (n:Nat) (w:World) (hr:regsB [a',b',c',d']=true) (hn:(60:Int)<(on':Int)):
  Calls Tryz.prog 103 #[dV p a b c d oa on oc code,dV p' a' b' c' d' oa' on' oc' code',.int .i64 n] w fun e w'=>e=.returned (dV p a b c d oa on oc 2)/\Below w.heap.size w w':=by
 have he:∀ wx,(binOp .neq 123 (regV a' b' c' d') (regV (clamp a') (clamp b') (clamp c') (clamp d'))).run Tryz.prog wx=.ok (.bool false) wx:=fun wx=>by rw [neq_regs,regEqB_clamp,hr];rfl
 go_enter Tryz.func103,Tryz.ntmps103
 go_wp2_with fail
 generalize hW:(((w.alloc (oQ2 p a b c d oa on oc code)).alloc (oQ2 p' a' b' c' d' oa' on' oc' code')).alloc (zQ1))=W at *
 obtain ⟨k0,k1,k2,k3,k4,k5,k6,x0,x1,x2,x3,x4,x5,x6,r0,r1,r2,r3,r4,r5,r6,kf,xf,rf,l2,BW'⟩:=diF_w1 hW
 have BW:Hid (Below w.heap.size w W):=BW'
 clear BW'
 clear hW
 have l0:w.heap.size<W.heap.size:=by omega
 have l1:w.heap.size+1<W.heap.size:=by omega
 have x0':=cell_regrown x0
 have x1':=cell_regrown x1
 have x2':=cell_regrown x2
 have x3':=cell_regrown x3
 have x4':=cell_regrown x4
 have x5':=cell_regrown x5
 have x6':=cell_regrown x6
 refine wp_region_quiet_below (by kernel_rfl) (by kernel_rfl) ?_
 repeat (quiet_step (first|(go_at_call 122;exact Calls.regrown_of (held_any _ _ _ _ _))))
 refine wpQuiet_nil ?_
 intro _ hw'
 obtain ⟨⟨dq,osq⟩,hw''⟩:=hw'
 subst hw''
 have b3:=below_regrown W dq osq
 have B3:Hid (Below w.heap.size w (grow (redrawn W dq) osq)):=BW.out.trans (b3.mono BW.out.size)
 obtain ⟨hc3,hf3⟩:=bcell b3
 generalize grow (redrawn W dq) osq=w3 at *
 clear b3 x0' x1' x2' x3' x4' x5' x6' he BW hr
 go_wp2_with (go_at_call 52;refine (isBelow_any _ _ _).mono ?_;rintro e w' ⟨rfl,rfl⟩)
 refine bodyPost_ret (v:=dV p a b c d oa on oc 2) (by simp [results,Tryz.results103,go_sem,hc3,l2,r0,r1,r2,r3,r4,r5,r6]) rfl ⟨rfl,?_⟩
 have:=B3.out
 go_grown
theorem settled_out (p a b c d:Int) (oa:Option Addr) (on oc:Nat) (code:Int) (p' a' b' c' d':Int) (oa':Option Addr) (on' oc':Nat) (code':Int) (n:Nat) (w:World) (hr:regsB [a',b',c',d']=true) (hn:¬ (60:Int)<(on':Int)) (hp:belB p' n=false):
  Calls Tryz.prog 103 #[dV p a b c d oa on oc code,dV p' a' b' c' d' oa' on' oc' code',.int .i64 n] w fun e w'=>e=.returned (dV p a' b' c' d' oa' on' oc' 2)/\Below w.heap.size w w':=by
 have he:∀ wx,(binOp .neq 123 (regV a' b' c' d') (regV (clamp a') (clamp b') (clamp c') (clamp d'))).run Tryz.prog wx=.ok (.bool false) wx:=fun wx=>by rw [neq_regs,regEqB_clamp,hr];rfl
 go_enter Tryz.func103,Tryz.ntmps103
 go_wp2_with fail
 generalize hW:(((w.alloc (oQ2 p a b c d oa on oc code)).alloc (oQ2 p' a' b' c' d' oa' on' oc' code')).alloc (zQ1))=W at *
 obtain ⟨k0,k1,k2,k3,k4,k5,k6,x0,x1,x2,x3,x4,x5,x6,r0,r1,r2,r3,r4,r5,r6,kf,xf,rf,l2,BW'⟩:=diF_w1 hW
 have BW:Hid (Below w.heap.size w W):=BW'
 clear BW'
 clear hW
 have l0:w.heap.size<W.heap.size:=by omega
 have l1:w.heap.size+1<W.heap.size:=by omega
 have x0':=cell_regrown x0
 have x1':=cell_regrown x1
 have x2':=cell_regrown x2
 have x3':=cell_regrown x3
 have x4':=cell_regrown x4
 have x5':=cell_regrown x5
 have x6':=cell_regrown x6
 refine wp_region_quiet_below (by kernel_rfl) (by kernel_rfl) ?_
 repeat (quiet_step (first|(go_at_call 122;exact Calls.regrown_of (held_any _ _ _ _ _))))
 refine wpQuiet_nil ?_
 intro _ hw'
 obtain ⟨⟨dq,osq⟩,hw''⟩:=hw'
 subst hw''
 have b3:=below_regrown W dq osq
 have B3:Hid (Below w.heap.size w (grow (redrawn W dq) osq)):=BW.out.trans (b3.mono BW.out.size)
 obtain ⟨hc3,hf3⟩:=bcell b3
 generalize grow (redrawn W dq) osq=w3 at *
 clear b3 x0' x1' x2' x3' x4' x5' x6' he BW hr
 go_wp2_with (go_at_call 52;refine (isBelow_any _ _ _).mono ?_;rintro e w' ⟨rfl,rfl⟩)
 refine bodyPost_ret (v:=dV p a' b' c' d' oa' on' oc' 2) (by simp [results,Tryz.results103,go_sem,hc3,l2,r0,r1,r2,r3,r4,r5,r6]) rfl ⟨rfl,?_⟩
 have:=B3.out
 go_grown
theorem settled_ok (p a b c d:Int) (oa:Option Addr) (on oc:Nat) (code:Int) (p' a' b' c' d':Int) (oa':Option Addr) (on' oc':Nat) (code':Int) (n:Nat) (w:World) (hr:regsB [a',b',c',d']=true) (hn:¬ (60:Int)<(on':Int)) (hp:belB p' n=true):
  Calls Tryz.prog 103 #[dV p a b c d oa on oc code,dV p' a' b' c' d' oa' on' oc' code',.int .i64 n] w fun e w'=>e=.returned (dV p' a' b' c' d' oa' on' oc' code')/\Below w.heap.size w w':=by
 have he:∀ wx,(binOp .neq 123 (regV a' b' c' d') (regV (clamp a') (clamp b') (clamp c') (clamp d'))).run Tryz.prog wx=.ok (.bool false) wx:=fun wx=>by rw [neq_regs,regEqB_clamp,hr];rfl
 go_enter Tryz.func103,Tryz.ntmps103
 go_wp2_with fail
 generalize hW:(((w.alloc (oQ2 p a b c d oa on oc code)).alloc (oQ2 p' a' b' c' d' oa' on' oc' code')).alloc (zQ1))=W at *
 obtain ⟨k0,k1,k2,k3,k4,k5,k6,x0,x1,x2,x3,x4,x5,x6,r0,r1,r2,r3,r4,r5,r6,kf,xf,rf,l2,BW'⟩:=diF_w1 hW
 have BW:Hid (Below w.heap.size w W):=BW'
 clear BW'
 clear hW
 have l0:w.heap.size<W.heap.size:=by omega
 have l1:w.heap.size+1<W.heap.size:=by omega
 have x0':=cell_regrown x0
 have x1':=cell_regrown x1
 have x2':=cell_regrown x2
 have x3':=cell_regrown x3
 have x4':=cell_regrown x4
 have x5':=cell_regrown x5
 have x6':=cell_regrown x6
 refine wp_region_quiet_below (by kernel_rfl) (by kernel_rfl) ?_
 repeat (quiet_step (first|(go_at_call 122;exact Calls.regrown_of (held_any _ _ _ _ _))))
 refine wpQuiet_nil ?_
 intro _ hw'
 obtain ⟨⟨dq,osq⟩,hw''⟩:=hw'
 subst hw''
 have b3:=below_regrown W dq osq
 have B3:Hid (Below w.heap.size w (grow (redrawn W dq) osq)):=BW.out.trans (b3.mono BW.out.size)
 obtain ⟨hc3,hf3⟩:=bcell b3
 generalize grow (redrawn W dq) osq=w3 at *
 clear b3 x0' x1' x2' x3' x4' x5' x6' he BW hr
 go_wp2_with (go_at_call 52;refine (isBelow_any _ _ _).mono ?_;rintro e w' ⟨rfl,rfl⟩)
 refine bodyPost_ret (v:=dV p' a' b' c' d' oa' on' oc' code') (by simp [results,Tryz.results103,go_sem,hc3,l2,r0,r1,r2,r3,r4,r5,r6]) rfl ⟨rfl,?_⟩
 have:=B3.out
 go_grown
theorem Marked.of_row {v:Value} {w w':World} {row:Option Nat} (g:w.grownBy w' row) (h:∀ k,row=some k->hasBlock v k):Marked v w w':=
 ⟨g.os,g.tape,g.output,g.size,fun k hk hn=>g.block k hk (fun e=>hn (h k e.symm))⟩
theorem grown_dr {w w':World} {row:Option Nat} (h:w.grownBy w' row):w.grownBy w'.drew row:=⟨h.os,h.tape,h.output,h.size,h.block⟩
theorem Marked.trans {v:Value} {w w1 w2:World} (h:Marked v w w1) (k:Marked v w1 w2):Marked v w w2:=
 ⟨k.os.trans h.os,k.tape.trans h.tape,k.output.trans h.output,zP h.size k.size,fun j hj hn=>(k.block j (zL hj h.size) hn).trans (h.block j hj hn)⟩
theorem Marked.of_below {v:Value} {w w':World} (h:Below w.heap.size w w'):Marked v w w':=⟨h.os,h.tape,h.output,h.size,fun k hk _=>h.block k hk⟩
theorem StOwn.parts {w:World} {B:Nat} {p code:Int} {ra oa:Option Addr} {rn rc on oc:Nat} {rs os:List Int} (h:StOwn w B (stV p ra rn rc oa on oc code) p rs os code):OwnI w B (.slice ra rn rc) rs/\OwnI w B (.slice oa on oc) os/\∀ k,(Value.slice ra rn rc).ownBlock=some k->(Value.slice oa on oc).ownBlock≠some k:=by
 obtain ⟨vr,vo,e,o1,o2,ha⟩:=h
 simp only [stV,Value.agg.injEq,Array.mk.injEq,List.cons.injEq,and_true,true_and] at e
 obtain ⟨rfl,rfl⟩:=e
 exact ⟨o1,o2,ha⟩
theorem l2Local_own (b off len cap k:Nat) (g:Nat->I5) (ra oa:Option Addr) (rc oc:Nat) (rs os:List Int) (B:Nat) (v:Int) (w:World) (hl:(len:Int)<=30) (hb:b<w.heap.size) (hI:InsAt w b off len g) (h4:rs.length=4) (hO:StOwn w B (stV k ra rs.length rc oa os.length oc 0) k rs os 0) (hk:k<len) (hp:progOkB g len 4=true) (hnum:allN rs=true) (h678:(g k).o≠6/\(g k).o≠7/\(g k).o≠8):
  Calls Tryz.prog 121 #[.slice (some ⟨b,off,none⟩) len cap,stV k ra rs.length rc oa os.length oc 0] w fun e w'=>∃ u,(∃ q c,u=stV q ra rs.length rc oa os.length oc c)/\e=.returned u/\StOwn w' B u (doneS len (g k) k rs os 0 v).p (doneS len (g k) k rs os 0 v).rs (doneS len (g k) k rs os 0 v).os (doneS len (g k) k rs os 0 v).c/\Marked (stV k ra rs.length rc oa os.length oc 0) w w':=by
 obtain ⟨o1,o2,ha⟩:=hO.parts
 obtain ⟨G,rfl,_,_,_⟩:=own_some o1 (by omega)
 obtain ⟨⟨q1,q11⟩,⟨r0,r3⟩,⟨a0,a3⟩,⟨b0,b3⟩⟩:=ins_range (right_ins hp hk)
 obtain ⟨jr,hjr⟩:=Int.eq_ofNat_of_zero_le r0
 obtain ⟨ja,hja⟩:=Int.eq_ofNat_of_zero_le a0
 obtain ⟨jb,hjb⟩:=Int.eq_ofNat_of_zero_le b0
 have hn4:∀ j,j<4->numB (zi rs j)=true:=fun j hj=>(List.all_eq_true.1 hnum) _ (zi_mem (by omega))
 rw [h4] at o1 ha ⊢
 have key:∀ s:S4,s=doneS len (g k) k rs os 0 0->s.os=os->(Calls Tryz.prog 121 #[.slice (some ⟨b,off,none⟩) len cap,stV k (some ⟨G,0,none⟩) 4 rc oa os.length oc 0] w fun e w'=>e=.returned (stV s.p (some ⟨G,0,none⟩) 4 rc oa os.length oc s.c)/\OwnI w' B (.slice (some ⟨G,0,none⟩) 4 rc) s.rs/\w.grownBy w' (some G))->doneS len (g k) k rs os 0 v=doneS len (g k) k rs os 0 0->(Calls Tryz.prog 121 #[.slice (some ⟨b,off,none⟩) len cap,stV k (some ⟨G,0,none⟩) 4 rc oa os.length oc 0] w fun e w'=>∃ u,(∃ q c,u=stV q (some ⟨G,0,none⟩) 4 rc oa os.length oc c)/\e=.returned u/\StOwn w' B u (doneS len (g k) k rs os 0 v).p (doneS len (g k) k rs os 0 v).rs (doneS len (g k) k rs os 0 v).os (doneS len (g k) k rs os 0 v).c/\Marked (stV k (some ⟨G,0,none⟩) 4 rc oa os.length oc 0) w w'):=by
  intro s hs hos h he
  rw [he,<- hs]
  refine h.mono fun e w' ⟨h1,h2,h3⟩=>⟨_,⟨_,_,rfl⟩,h1,⟨_,_,rfl,h2,?_,ha⟩,Marked.of_row h3 fun j hj=>(hasBlock_iff _ _ _ _ _).2 (.inl hj)⟩
  rw [hos]
  exact o2.kept h3 (by
   cases hv:(Value.slice oa os.length oc).ownBlock with
   | none=>exact .inl rfl
   | some j=>exact .inr (fun e=>ha G rfl (by rw [hv,e])))
 have hsame:doneS len (g k) k rs os 0 v=doneS len (g k) k rs os 0 0:=by
  unfold doneS
  rw [if_neg h678.1,if_neg h678.2.1,if_neg h678.2.2,if_neg h678.1,if_neg h678.2.1,if_neg h678.2.2]
 have hos:(doneS len (g k) k rs os 0 0).os=os:=by
  unfold doneS
  rw [if_neg h678.1,if_neg h678.2.1,if_neg h678.2.2]
  split
  ·rfl
  ·split
   ·split <;> rfl
   ·split
    ·rfl
    ·split <;> rfl
 refine key _ rfl hos ?_ hsame
 rcases opCases (g k).o with ho | ho | ho | ho | ho | ho | ho | ho | ho | ho | ho | ho
 ·omega
 ·exact l2Local_1 b off len cap k g G rc oa os.length oc 0 rs B w hl hb hI o1 h4 hk jr ja jb hjr hja hjb (by omega) (by omega) (by omega) ho hn4 os
 ·exact l2Local_2 b off len cap k g G rc oa os.length oc 0 rs B w hl hb hI o1 h4 hk jr ja jb hjr hja hjb (by omega) (by omega) (by omega) ho hn4 os
 ·exact l2Local_3 b off len cap k g G rc oa os.length oc 0 rs B w hl hb hI o1 h4 hk jr ja jb hjr hja hjb (by omega) (by omega) (by omega) ho hn4 os
 ·exact l2Local_4 b off len cap k g G rc oa os.length oc 0 rs B w hl hb hI o1 h4 hk jr ja jb hjr hja hjb (by omega) (by omega) (by omega) ho hn4 os
 ·exact l2Local_5 b off len cap k g G rc oa os.length oc 0 rs B w hl hb hI o1 h4 hk jr ja jb hjr hja hjb (by omega) (by omega) (by omega) ho hn4 os
 ·exact absurd ho h678.1
 ·exact absurd ho h678.2.1
 ·exact absurd ho h678.2.2
 ·exact l2Local_9 b off len cap k g G rc oa os.length oc 0 rs B w hl hb hI o1 h4 hk jr ja jb hjr hja hjb (by omega) (by omega) (by omega) ho hn4 os
 ·exact l2Local_10 b off len cap k g G rc oa os.length oc 0 rs B w hl hb hI o1 h4 hk jr ja jb hjr hja hjb (by omega) (by omega) (by omega) ho hn4 os
 ·exact l2Local_11 b off len cap k g G rc oa os.length oc 0 rs B w hl hb hI o1 h4 hk jr ja jb hjr hja hjb (by omega) (by omega) (by omega) ho hn4 os
theorem l2Do_local (b off len cap k:Nat) (g:Nat->I5) (ra oa:Option Addr) (rc oc:Nat) (rs os:List Int) (w:World) (hl:(len:Int)<=30) (hb:b<w.heap.size) (hI:InsAt w b off len g) (h4:rs.length=4) (ho:os.length<=60) (h1:Sl w ra rs) (h2:Sl w oa os) (hk:k<len) (hp:progOkB g len 4=true) (np:Int) (HN:Hid (evK (g k).o=1/\evP (g k).o (g k).n=np/\evW (g k).o (g k).a rs=0)) (HL:Hid (allN rs=true/\(g k).o≠6/\(g k).o≠7/\(g k).o≠8)):
  Calls Tryz.prog 85 #[.slice (some ⟨b,off,none⟩) len cap,stV k ra rs.length rc oa os.length oc 0,evV 1 np 0] w fun e w'=>∃ v,e=.returned (.tuple #[v,.bool true])/\StOwn w' w.heap.size v (doneS len (g k) k rs os 0 0).p (doneS len (g k) k rs os 0 0).rs (doneS len (g k) k rs os 0 0).os (doneS len (g k) k rs os 0 0).c/\Below w.heap.size w w':=by
 have HI:Hid (InsAt w b off len g):=hI
 have H1:Hid (Sl w ra rs):=h1
 have H2:Hid (Sl w oa os):=h2
 have H4:Hid (rs.length=4):=h4
 have HP:Hid (progOkB g len 4=true):=hp
 have hk':(k:Int)<(len:Int):=by omega
 clear hI h1 h2 h4 hp
 go_enter Tryz.func85,Tryz.ntmps85
 go_wp2_with fail
 refine (l2Next_any _ _ _ _ k g _ _ _ _ _ _ rs _ (by unfold maxLen;omega) (by simp;omega) (HI.out.below (by go_grown) hb) (H1.out.below (by go_grown)) H4.out hk HP.out).mono ?_
 rintro e w1 ⟨he1,b1⟩
 rw [HN.out.1,HN.out.2.1,HN.out.2.2] at he1
 subst he1
 have B1:Hid (Below w.heap.size w (w1.alloc (oQ0 1 np 0))):=(below_up (by go_grown) b1 (by simp;omega)).alloc (by have:=b1.size;simp at this;omega) _
 have X1:Hid (DoBox (w1.alloc (oQ0 1 np 0)) w.heap.size (.int .i64 k) (.slice ra rs.length rc) (.slice oa os.length oc) (.int .i64 0) 1 np 0):=((DoBox.new w _ _ _ _ _ _ _ _ _ _).below b1).below (zT w1 _)
 clear b1
 obtain ⟨p0,p1,p2,p3,-,-,-,-,-,-,-,-⟩:=X1.out
 go_wp2_with fail
 clear p0 p1 p2 p3
 have V1:Hid (EvC3 (w1.alloc (oQ0 1 np 0)) w1.heap.size 1 np 0):=EvC3.new w1 _ _ _ _
 generalize w1.alloc (oQ0 1 np 0)=W1 at *
 refine (l2Copy_any _ _ _ _ _ _ rs os _ (by have:=H4.out;omega) (by omega) (H1.out.below B1.out) (H2.out.below B1.out)).mono ?_
 rintro e w2 ⟨v2,rfl,o2,b2⟩
 obtain ⟨ra2,rc2,oa2,oc2,rfl,-,-⟩:=o2.read
 have bA:=zT w2 (oQ1 k ra2 rs.length rc2 oa2 os.length oc2 0)
 have q2:Below W1.heap.size W1 (w2.alloc (oQ1 k ra2 rs.length rc2 oa2 os.length oc2 0)):=b2.trans (bA.mono b2.size)
 have X2:Hid (DoBox (w2.alloc (oQ1 k ra2 rs.length rc2 oa2 os.length oc2 0)) w.heap.size (.int .i64 k) (.slice ra rs.length rc) (.slice oa os.length oc) (.int .i64 0) 1 np 0):=X1.out.below q2
 have V2:Hid (EvC3 (w2.alloc (oQ1 k ra2 rs.length rc2 oa2 os.length oc2 0)) w1.heap.size 1 np 0):=V1.out.below q2
 have Y2:Hid (BoxC (w2.alloc (oQ1 k ra2 rs.length rc2 oa2 os.length oc2 0)) w2.heap.size (.int .i64 k) (.slice ra2 rs.length rc2) (.slice oa2 os.length oc2) (.int .i64 0)):=BoxC.new w2 _ _ _ _ _
 have F2:Hid (∀ j,(w2.alloc (oQ1 k ra2 rs.length rc2 oa2 os.length oc2 0)).frozen? ⟨w2.heap.size,j,none⟩=false):=fun j=>by simp
 have O2:Hid (StOwn (w2.alloc (oQ1 k ra2 rs.length rc2 oa2 os.length oc2 0)) W1.heap.size (stV k ra2 rs.length rc2 oa2 os.length oc2 0) k rs os 0):=o2.below bA
 have L2:Hid (∀ j,hasBlock (stV k ra2 rs.length rc2 oa2 os.length oc2 0) j->W1.heap.size<=j/\j<w2.heap.size):=fun j hj=>o2.lt hj
 have B2:Hid (Below w.heap.size w (w2.alloc (oQ1 k ra2 rs.length rc2 oa2 os.length oc2 0))):=B1.out.trans (q2.mono B1.out.size)
 have zw:w.heap.size+1+1<W1.heap.size:=X1.out.lt
 have zv:w1.heap.size<W1.heap.size:=zJ W1 _ V1.out.1
 have z2:W1.heap.size<=w2.heap.size:=b2.size
 clear b2 o2 bA q2 X1 V1 B1
 obtain ⟨p0,p1,p2,p3,e0,e1,e2,r0,r1,r2,r3,rf⟩:=X2.out
 obtain ⟨u0,u1,u2⟩:=V2.out
 obtain ⟨t0,t1,t2,t3⟩:=Y2.out
 have tf:=F2.out
 go_wp2_with fail
 clear p0 p1 p2 p3 e0 e1 e2 r0 r1 r2 r3 rf u0 u1 u2 t0 t1 t2 t3 tf
 generalize w2.alloc (oQ1 k ra2 rs.length rc2 oa2 os.length oc2 0)=W2 at *
 refine (l2Local_own b off len cap k g ra2 oa2 rc2 oc2 rs os W1.heap.size 0 W2 hl (by have:=B2.out.size;omega) (HI.out.below B2.out hb) H4.out O2.out hk HP.out HL.out.1 HL.out.2).mono ?_
 rintro e w3 ⟨u,⟨q3,c3,hu⟩,rfl,o3,m3⟩
 rw [hu]
 rw [hu] at o3
 have X3:Hid (DoBox w3 w.heap.size (.int .i64 k) (.slice ra rs.length rc) (.slice oa os.length oc) (.int .i64 0) 1 np 0):=X2.out.marked m3 fun j hj=>by have:=L2.out j hj;omega
 have O3:Hid (StOwn w3 W1.heap.size (stV q3 ra2 rs.length rc2 oa2 os.length oc2 c3) (doneS len (g k) k rs os 0 0).p (doneS len (g k) k rs os 0 0).rs (doneS len (g k) k rs os 0 0).os (doneS len (g k) k rs os 0 0).c):=o3
 have B3:Hid (Below w.heap.size w w3):=B2.out.trans (m3.below B2.out.size fun j hj=>by have:=L2.out j hj;omega)
 clear o3 m3 X2 V2 Y2 F2 O2 B2 hu u
 obtain ⟨-,-,-,-,-,-,-,r0,r1,r2,r3,rf⟩:=X3.out
 go_wp2
 refine bodyPost_ret (v:=.tuple #[stV q3 ra2 rs.length rc2 oa2 os.length oc2 c3,.bool true]) (by simp [results,Tryz.results85,go_sem,r0,r1,r2,r3]) rfl ⟨_,rfl,?_,?_⟩
 ·exact StOwn.put4 (B':=W1.heap.size) O3.out zw (by omega)
 ·have:=B3.out
  go_grown
