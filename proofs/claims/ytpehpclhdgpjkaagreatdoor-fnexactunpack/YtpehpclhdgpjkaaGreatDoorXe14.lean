import Derived.Test.YtpehpclhdgpjkaaGreatDoorXe0
import Derived.Test.YtpehpclhdgpjkaaGreatDoorXe13
import Derived.Laws.EntriesVeiled
import Derived.Test.YtpehpclhdgpjkaaGreatDoorXe8
namespace Go.Proofs.YtpehpclhdgpjkaaGreatDoor
set_option maxRecDepth 100000
set_option maxHeartbeats 1000000
open Go.RowKit
theorem stepOf_1 (w:World):
  Calls Tryz.prog 139 #[.int .i64 1] w fun e w'=>e=.returned (.func (.func 147) #[] #[])/\Below w.heap.size w w':=by
 go_enter Tryz.func139,Tryz.ntmps139
 go_wp2_with fail
 refine bodyPost_ret (v:=.func (.func 147) #[] #[]) (by simp [results,Tryz.results139,go_sem]) rfl ⟨rfl,?_⟩
 go_grown
theorem stepOf_2 (w:World):
  Calls Tryz.prog 139 #[.int .i64 2] w fun e w'=>e=.returned (.func (.func 148) #[] #[])/\Below w.heap.size w w':=by
 go_enter Tryz.func139,Tryz.ntmps139
 go_wp2_with fail
 refine bodyPost_ret (v:=.func (.func 148) #[] #[]) (by simp [results,Tryz.results139,go_sem]) rfl ⟨rfl,?_⟩
 go_grown
theorem stepOf_3 (w:World):
  Calls Tryz.prog 139 #[.int .i64 3] w fun e w'=>e=.returned (.func (.func 149) #[] #[])/\Below w.heap.size w w':=by
 go_enter Tryz.func139,Tryz.ntmps139
 go_wp2_with fail
 refine bodyPost_ret (v:=.func (.func 149) #[] #[]) (by simp [results,Tryz.results139,go_sem]) rfl ⟨rfl,?_⟩
 go_grown
theorem stepOf_4 (w:World):
  Calls Tryz.prog 139 #[.int .i64 4] w fun e w'=>e=.returned (.func (.func 150) #[] #[])/\Below w.heap.size w w':=by
 go_enter Tryz.func139,Tryz.ntmps139
 go_wp2_with fail
 refine bodyPost_ret (v:=.func (.func 150) #[] #[]) (by simp [results,Tryz.results139,go_sem]) rfl ⟨rfl,?_⟩
 go_grown
theorem stepOf_5 (w:World):
  Calls Tryz.prog 139 #[.int .i64 5] w fun e w'=>e=.returned (.func (.func 151) #[] #[])/\Below w.heap.size w w':=by
 go_enter Tryz.func139,Tryz.ntmps139
 go_wp2_with fail
 refine bodyPost_ret (v:=.func (.func 151) #[] #[]) (by simp [results,Tryz.results139,go_sem]) rfl ⟨rfl,?_⟩
 go_grown
theorem stepOf_6 (w:World):
  Calls Tryz.prog 139 #[.int .i64 6] w fun e w'=>e=.returned (.func (.func 152) #[] #[])/\Below w.heap.size w w':=by
 go_enter Tryz.func139,Tryz.ntmps139
 go_wp2_with fail
 refine bodyPost_ret (v:=.func (.func 152) #[] #[]) (by simp [results,Tryz.results139,go_sem]) rfl ⟨rfl,?_⟩
 go_grown
theorem stepOf_7 (w:World):
  Calls Tryz.prog 139 #[.int .i64 7] w fun e w'=>e=.returned (.func (.func 153) #[] #[])/\Below w.heap.size w w':=by
 go_enter Tryz.func139,Tryz.ntmps139
 go_wp2_with fail
 refine bodyPost_ret (v:=.func (.func 153) #[] #[]) (by simp [results,Tryz.results139,go_sem]) rfl ⟨rfl,?_⟩
 go_grown
theorem stepOf_8 (w:World):
  Calls Tryz.prog 139 #[.int .i64 8] w fun e w'=>e=.returned (.func (.func 154) #[] #[])/\Below w.heap.size w w':=by
 go_enter Tryz.func139,Tryz.ntmps139
 go_wp2_with fail
 refine bodyPost_ret (v:=.func (.func 154) #[] #[]) (by simp [results,Tryz.results139,go_sem]) rfl ⟨rfl,?_⟩
 go_grown
theorem stepOf_9 (w:World):
  Calls Tryz.prog 139 #[.int .i64 9] w fun e w'=>e=.returned (.func (.func 155) #[] #[])/\Below w.heap.size w w':=by
 go_enter Tryz.func139,Tryz.ntmps139
 go_wp2_with fail
 refine bodyPost_ret (v:=.func (.func 155) #[] #[]) (by simp [results,Tryz.results139,go_sem]) rfl ⟨rfl,?_⟩
 go_grown
theorem stepOf_10 (w:World):
  Calls Tryz.prog 139 #[.int .i64 10] w fun e w'=>e=.returned (.func (.func 156) #[] #[])/\Below w.heap.size w w':=by
 go_enter Tryz.func139,Tryz.ntmps139
 go_wp2_with fail
 refine bodyPost_ret (v:=.func (.func 156) #[] #[]) (by simp [results,Tryz.results139,go_sem]) rfl ⟨rfl,?_⟩
 go_grown
theorem stepOf_11 (w:World):
  Calls Tryz.prog 139 #[.int .i64 11] w fun e w'=>e=.returned (.func (.func 157) #[] #[])/\Below w.heap.size w w':=by
 go_enter Tryz.func139,Tryz.ntmps139
 go_wp2_with fail
 refine bodyPost_ret (v:=.func (.func 157) #[] #[]) (by simp [results,Tryz.results139,go_sem]) rfl ⟨rfl,?_⟩
 go_grown
theorem canCome_any (nk np nv k q v:Int) (w:World):
  Calls Tryz.prog 135 #[evV nk np nv,evV k q v] w fun e w'=>e=.returned (.bool (canB nk np nv k q v))/\Below w.heap.size w w':=by
 have he:=fun wx=>eql_ev k q v nk np nv wx
 by_cases c1:nk=3
 case neg=>
  have c1':(nk != 3)=true:=by simpa using c1
  by_cases c2:nk=0
  ·subst c2
   have hv:Hid (canB 0 np nv k q v=false):=by simp [Hid,canB]
   go_enter Tryz.func135,Tryz.ntmps135
   go_wp2_with (first|(go_at_call 134;refine (isNum_any _ _).mono ?_;rintro e w' ⟨rfl,rfl⟩)|(go_at_call 86;refine (isBelow_any _ _ _).mono ?_;rintro e w' ⟨rfl,rfl⟩))
   refine bodyPost_ret (v:=.bool (false)) (by simp [results,Tryz.results135,go_sem]) rfl ⟨by rw [hv.out],?_⟩
   go_grown
  ·have c2':(nk != 0)=true:=by simpa using c2
   have hv:Hid (canB nk np nv k q v=evEqB k q v nk np nv):=by simp [Hid,canB,evEqB,c1,c2']
   clear c1 c2
   go_enter Tryz.func135,Tryz.ntmps135
   go_wp2_with (first|(go_at_call 134;refine (isNum_any _ _).mono ?_;rintro e w' ⟨rfl,rfl⟩)|(go_at_call 86;refine (isBelow_any _ _ _).mono ?_;rintro e w' ⟨rfl,rfl⟩))
   refine bodyPost_ret (v:=.bool (evEqB k q v nk np nv)) (by simp [results,Tryz.results135,go_sem]) rfl ⟨by rw [hv.out],?_⟩
   go_grown
 subst c1
 by_cases c2:k=3
 case neg=>
  have c2':(k != 3)=true:=by simpa using c2
  have hv:Hid (canB 3 np nv k q v=false):=by simp [Hid,canB,c2]
  clear c2
  go_enter Tryz.func135,Tryz.ntmps135
  go_wp2_with (first|(go_at_call 134;refine (isNum_any _ _).mono ?_;rintro e w' ⟨rfl,rfl⟩)|(go_at_call 86;refine (isBelow_any _ _ _).mono ?_;rintro e w' ⟨rfl,rfl⟩))
  refine bodyPost_ret (v:=.bool (false)) (by simp [results,Tryz.results135,go_sem]) rfl ⟨by rw [hv.out],?_⟩
  go_grown
 subst c2
 rcases zK (numB v) with c3 | c3
 case inr=>
  have hv:Hid (canB 3 np nv 3 q v=false):=by simp [Hid,canB,c3]
  have c3':inB v (-1000000000) 1000000000=false:=c3
  clear c3
  go_enter Tryz.func135,Tryz.ntmps135
  go_wp2_with (first|(go_at_call 134;refine (isNum_any _ _).mono ?_;rintro e w' ⟨rfl,rfl⟩)|(go_at_call 86;refine (isBelow_any _ _ _).mono ?_;rintro e w' ⟨rfl,rfl⟩))
  refine bodyPost_ret (v:=.bool (false)) (by simp [results,Tryz.results135,go_sem]) rfl ⟨by rw [hv.out],?_⟩
  go_grown
 by_cases c4:np=9
 ·subst c4
  have hv:Hid (canB 3 9 nv 3 q v=belB q 4):=by simp [Hid,canB,c3]
  have c3':inB v (-1000000000) 1000000000=true:=c3
  clear c3
  go_enter Tryz.func135,Tryz.ntmps135
  go_wp2_with (first|(go_at_call 134;refine (isNum_any _ _).mono ?_;rintro e w' ⟨rfl,rfl⟩)|(go_at_call 86;refine (isBelow_any _ _ _).mono ?_;rintro e w' ⟨rfl,rfl⟩))
  refine bodyPost_ret (v:=.bool (belB q 4)) (by simp [results,Tryz.results135,go_sem]) rfl ⟨by rw [hv.out],?_⟩
  go_grown
 ·have c4':(np == 9)=false:=by simpa using c4
  have hv:Hid (canB 3 np nv 3 q v=(q == np)):=by simp [Hid,canB,c3,c4]
  have c3':inB v (-1000000000) 1000000000=true:=c3
  clear c3 c4
  go_enter Tryz.func135,Tryz.ntmps135
  go_wp2_with (first|(go_at_call 134;refine (isNum_any _ _).mono ?_;rintro e w' ⟨rfl,rfl⟩)|(go_at_call 86;refine (isBelow_any _ _ _).mono ?_;rintro e w' ⟨rfl,rfl⟩))
  refine bodyPost_ret (v:=.bool (q == np)) (by simp [results,Tryz.results135,go_sem]) rfl ⟨by rw [hv.out],?_⟩
  go_grown
open Go.Sort
theorem neq_regs (a b c d a' b' c' d':Int) (w:World):(binOp .neq 187 (regV a b c d) (regV a' b' c' d')).run Tryz.prog w=.ok (.bool (!regEqB a b c d a' b' c' d')) w:=by
 have h:=eql_regs a b c d a' b' c' d' w
 simp only [binOp,Sem.run_bind,Sem.run_pure] at h ⊢
 revert h
 generalize Sem.run Tryz.prog (Op.equal 187 (regV a b c d) (regV a' b' c' d')) w=r
 cases r <;> simp (config:={ contextual:=true }) [Result.andThen]
theorem diF_w1 {w W:World} {v0:Int} {v1:Int} {v2:Int} {v3:Int} {v4:Int} {v5:Option Addr} {v6:Nat} {v7:Nat} {v8:Int} {v9:Int} {v10:Int} {v11:Int} {v12:Int} {v13:Int} {v14:Option Addr} {v15:Nat} {v16:Nat} {v17:Int} (hW:(((w.alloc (oQ3 v0 v1 v2 v3 v4 v5 v6 v7 v8)).alloc (oQ3 v9 v10 v11 v12 v13 v14 v15 v16 v17)).alloc (zQ1))=W):W.cell? ⟨w.heap.size,0,none⟩=some (.int .i64 v0)/\W.cell? ⟨w.heap.size,1,none⟩=some (.int .i64 v1)/\W.cell? ⟨w.heap.size,2,none⟩=some (.int .i64 v2)/\W.cell? ⟨w.heap.size,3,none⟩=some (.int .i64 v3)/\W.cell? ⟨w.heap.size,4,none⟩=some (.int .i64 v4)/\W.cell? ⟨w.heap.size,5,none⟩=some (.slice v5 v6 v7)/\W.cell? ⟨w.heap.size,6,none⟩=some (.int .i64 v8)/\W.cell? ⟨w.heap.size+1,0,none⟩=some (.int .i64 v9)/\W.cell? ⟨w.heap.size+1,1,none⟩=some (.int .i64 v10)/\W.cell? ⟨w.heap.size+1,2,none⟩=some (.int .i64 v11)/\W.cell? ⟨w.heap.size+1,3,none⟩=some (.int .i64 v12)/\W.cell? ⟨w.heap.size+1,4,none⟩=some (.int .i64 v13)/\W.cell? ⟨w.heap.size+1,5,none⟩=some (.slice v14 v15 v16)/\W.cell? ⟨w.heap.size+1,6,none⟩=some (.int .i64 v17)/\W.cell? ⟨w.heap.size+1+1,0,none⟩=some (.int .i64 0)/\W.cell? ⟨w.heap.size+1+1,1,none⟩=some (.int .i64 0)/\W.cell? ⟨w.heap.size+1+1,2,none⟩=some (.int .i64 0)/\W.cell? ⟨w.heap.size+1+1,3,none⟩=some (.int .i64 0)/\W.cell? ⟨w.heap.size+1+1,4,none⟩=some (.int .i64 0)/\W.cell? ⟨w.heap.size+1+1,5,none⟩=some (.slice none 0 0)/\W.cell? ⟨w.heap.size+1+1,6,none⟩=some (.int .i64 0)/\(∀ j,W.frozen? ⟨w.heap.size,j,none⟩=false)/\(∀ j,W.frozen? ⟨w.heap.size+1,j,none⟩=false)/\(∀ j,W.frozen? ⟨w.heap.size+1+1,j,none⟩=false)/\w.heap.size+1+1<W.heap.size/\Below w.heap.size w W:=by
 subst hW
 exact ⟨(zQ _ _ (by simp<;>omega)).trans ((zQ _ _ (by simp)).trans (by simp)),(zQ _ _ (by simp<;>omega)).trans ((zQ _ _ (by simp)).trans (by simp)),(zQ _ _ (by simp<;>omega)).trans ((zQ _ _ (by simp)).trans (by simp)),(zQ _ _ (by simp<;>omega)).trans ((zQ _ _ (by simp)).trans (by simp)),(zQ _ _ (by simp<;>omega)).trans ((zQ _ _ (by simp)).trans (by simp)),(zQ _ _ (by simp<;>omega)).trans ((zQ _ _ (by simp)).trans (by simp)),(zQ _ _ (by simp<;>omega)).trans ((zQ _ _ (by simp)).trans (by simp)),(zQ _ _ (by simp)).trans (zV _ _ _ 0 (by simp)),(zQ _ _ (by simp)).trans (zV _ _ _ 1 (by simp)),(zQ _ _ (by simp)).trans (zV _ _ _ 2 (by simp)),(zQ _ _ (by simp)).trans (zV _ _ _ 3 (by simp)),(zQ _ _ (by simp)).trans (zV _ _ _ 4 (by simp)),(zQ _ _ (by simp)).trans (zV _ _ _ 5 (by simp)),(zQ _ _ (by simp)).trans (zV _ _ _ 6 (by simp)),zV _ _ _ 0 (by simp),zV _ _ _ 1 (by simp),zV _ _ _ 2 (by simp),zV _ _ _ 3 (by simp),zV _ _ _ 4 (by simp),zV _ _ _ 5 (by simp),zV _ _ _ 6 (by simp),fun j=>((bcell (zS _ _)).2 _ _ (by simp<;>omega)).trans (((bcell (zS _ _)).2 _ _ (by simp)).trans (yA _ _ _ j rfl)),fun j=>((bcell (zS _ _)).2 _ _ (by simp)).trans (yA _ _ _ j (by simp)),fun j=>yA _ _ _ j (by simp),by simp,by go_grown⟩
theorem settled_regs (p a b c d:Int) (oa:Option Addr) (on oc:Nat) (code:Int) (p' a' b' c' d':Int) (oa':Option Addr) (on' oc':Nat) (code':Int) (n:Nat) (w:World) (hr:regsB [a',b',c',d']=false):
  Calls Tryz.prog 140 #[dV p a b c d oa on oc code,dV p' a' b' c' d' oa' on' oc' code',.int .i64 n] w fun e w'=>e=.returned (dV p a b c d oa on oc 2)/\Below w.heap.size w w':=by
 have he:∀ wx,(binOp .neq 187 (regV a' b' c' d') (regV (clamp a') (clamp b') (clamp c') (clamp d'))).run Tryz.prog wx=.ok (.bool true) wx:=fun wx=>by rw [neq_regs,regEqB_clamp,hr];rfl
 go_enter Tryz.func140,Tryz.ntmps140
 go_wp2_with fail
 generalize hW:(((w.alloc (oQ3 p a b c d oa on oc code)).alloc (oQ3 p' a' b' c' d' oa' on' oc' code')).alloc (zQ1))=W at *
 obtain ⟨k0,k1,k2,k3,k4,k5,k6,x0,x1,x2,x3,x4,x5,x6,r0,r1,r2,r3,r4,r5,r6,kf,xf,rf,l2,BW'⟩:=diF_w1 hW
 have BW:Hid (Below w.heap.size w W):=BW'
 clear BW'
 clear hW
 have l0:w.heap.size<W.heap.size:=by omega
 have l1:w.heap.size+1<W.heap.size:=by omega
 have x0':=cell_regrown x0
 have x1':=cell_regrown x1
 have x2':=cell_regrown x2
 have x3':=cell_regrown x3
 have x4':=cell_regrown x4
 have x5':=cell_regrown x5
 have x6':=cell_regrown x6
 refine wp_region_quiet_below (by kernel_rfl) (by kernel_rfl) ?_
 repeat (quiet_step (first|(go_at_call 158;exact Calls.regrown_of (held_any _ _ _ _ _))))
 refine wpQuiet_nil ?_
 intro _ hw'
 obtain ⟨⟨dq,osq⟩,hw''⟩:=hw'
 subst hw''
 have b3:=below_regrown W dq osq
 have B3:Hid (Below w.heap.size w (grow (redrawn W dq) osq)):=BW.out.trans (b3.mono BW.out.size)
 obtain ⟨hc3,hf3⟩:=bcell b3
 generalize grow (redrawn W dq) osq=w3 at *
 clear b3 x0' x1' x2' x3' x4' x5' x6' he BW hr
 go_wp2_with (go_at_call 86;refine (isBelow_any _ _ _).mono ?_;rintro e w' ⟨rfl,rfl⟩)
 refine bodyPost_ret (v:=dV p a b c d oa on oc 2) (by simp [results,Tryz.results140,go_sem,hc3,l2,r0,r1,r2,r3,r4,r5,r6]) rfl ⟨rfl,?_⟩
 have:=B3.out
 go_grown
theorem settled_full (p a b c d:Int) (oa:Option Addr) (on oc:Nat) (code:Int) (p' a' b' c' d':Int) (oa':Option Addr) (on' oc':Nat) (code':Int) (n:Nat) (w:World) (hr:regsB [a',b',c',d']=true) (hn:(60:Int)<(on':Int)):
  Calls Tryz.prog 140 #[dV p a b c d oa on oc code,dV p' a' b' c' d' oa' on' oc' code',.int .i64 n] w fun e w'=>e=.returned (dV p a b c d oa on oc 2)/\Below w.heap.size w w':=by
 have he:∀ wx,(binOp .neq 187 (regV a' b' c' d') (regV (clamp a') (clamp b') (clamp c') (clamp d'))).run Tryz.prog wx=.ok (.bool false) wx:=fun wx=>by rw [neq_regs,regEqB_clamp,hr];rfl
 go_enter Tryz.func140,Tryz.ntmps140
 go_wp2_with fail
 generalize hW:(((w.alloc (oQ3 p a b c d oa on oc code)).alloc (oQ3 p' a' b' c' d' oa' on' oc' code')).alloc (zQ1))=W at *
 obtain ⟨k0,k1,k2,k3,k4,k5,k6,x0,x1,x2,x3,x4,x5,x6,r0,r1,r2,r3,r4,r5,r6,kf,xf,rf,l2,BW'⟩:=diF_w1 hW
 have BW:Hid (Below w.heap.size w W):=BW'
 clear BW'
 clear hW
 have l0:w.heap.size<W.heap.size:=by omega
 have l1:w.heap.size+1<W.heap.size:=by omega
 have x0':=cell_regrown x0
 have x1':=cell_regrown x1
 have x2':=cell_regrown x2
 have x3':=cell_regrown x3
 have x4':=cell_regrown x4
 have x5':=cell_regrown x5
 have x6':=cell_regrown x6
 refine wp_region_quiet_below (by kernel_rfl) (by kernel_rfl) ?_
 repeat (quiet_step (first|(go_at_call 158;exact Calls.regrown_of (held_any _ _ _ _ _))))
 refine wpQuiet_nil ?_
 intro _ hw'
 obtain ⟨⟨dq,osq⟩,hw''⟩:=hw'
 subst hw''
 have b3:=below_regrown W dq osq
 have B3:Hid (Below w.heap.size w (grow (redrawn W dq) osq)):=BW.out.trans (b3.mono BW.out.size)
 obtain ⟨hc3,hf3⟩:=bcell b3
 generalize grow (redrawn W dq) osq=w3 at *
 clear b3 x0' x1' x2' x3' x4' x5' x6' he BW hr
 go_wp2_with (go_at_call 86;refine (isBelow_any _ _ _).mono ?_;rintro e w' ⟨rfl,rfl⟩)
 refine bodyPost_ret (v:=dV p a b c d oa on oc 2) (by simp [results,Tryz.results140,go_sem,hc3,l2,r0,r1,r2,r3,r4,r5,r6]) rfl ⟨rfl,?_⟩
 have:=B3.out
 go_grown
theorem settled_out (p a b c d:Int) (oa:Option Addr) (on oc:Nat) (code:Int) (p' a' b' c' d':Int) (oa':Option Addr) (on' oc':Nat) (code':Int) (n:Nat) (w:World) (hr:regsB [a',b',c',d']=true) (hn:¬ (60:Int)<(on':Int)) (hp:belB p' n=false):
  Calls Tryz.prog 140 #[dV p a b c d oa on oc code,dV p' a' b' c' d' oa' on' oc' code',.int .i64 n] w fun e w'=>e=.returned (dV p a' b' c' d' oa' on' oc' 2)/\Below w.heap.size w w':=by
 have he:∀ wx,(binOp .neq 187 (regV a' b' c' d') (regV (clamp a') (clamp b') (clamp c') (clamp d'))).run Tryz.prog wx=.ok (.bool false) wx:=fun wx=>by rw [neq_regs,regEqB_clamp,hr];rfl
 go_enter Tryz.func140,Tryz.ntmps140
 go_wp2_with fail
 generalize hW:(((w.alloc (oQ3 p a b c d oa on oc code)).alloc (oQ3 p' a' b' c' d' oa' on' oc' code')).alloc (zQ1))=W at *
 obtain ⟨k0,k1,k2,k3,k4,k5,k6,x0,x1,x2,x3,x4,x5,x6,r0,r1,r2,r3,r4,r5,r6,kf,xf,rf,l2,BW'⟩:=diF_w1 hW
 have BW:Hid (Below w.heap.size w W):=BW'
 clear BW'
 clear hW
 have l0:w.heap.size<W.heap.size:=by omega
 have l1:w.heap.size+1<W.heap.size:=by omega
 have x0':=cell_regrown x0
 have x1':=cell_regrown x1
 have x2':=cell_regrown x2
 have x3':=cell_regrown x3
 have x4':=cell_regrown x4
 have x5':=cell_regrown x5
 have x6':=cell_regrown x6
 refine wp_region_quiet_below (by kernel_rfl) (by kernel_rfl) ?_
 repeat (quiet_step (first|(go_at_call 158;exact Calls.regrown_of (held_any _ _ _ _ _))))
 refine wpQuiet_nil ?_
 intro _ hw'
 obtain ⟨⟨dq,osq⟩,hw''⟩:=hw'
 subst hw''
 have b3:=below_regrown W dq osq
 have B3:Hid (Below w.heap.size w (grow (redrawn W dq) osq)):=BW.out.trans (b3.mono BW.out.size)
 obtain ⟨hc3,hf3⟩:=bcell b3
 generalize grow (redrawn W dq) osq=w3 at *
 clear b3 x0' x1' x2' x3' x4' x5' x6' he BW hr
 go_wp2_with (go_at_call 86;refine (isBelow_any _ _ _).mono ?_;rintro e w' ⟨rfl,rfl⟩)
 refine bodyPost_ret (v:=dV p a' b' c' d' oa' on' oc' 2) (by simp [results,Tryz.results140,go_sem,hc3,l2,r0,r1,r2,r3,r4,r5,r6]) rfl ⟨rfl,?_⟩
 have:=B3.out
 go_grown
theorem settled_ok (p a b c d:Int) (oa:Option Addr) (on oc:Nat) (code:Int) (p' a' b' c' d':Int) (oa':Option Addr) (on' oc':Nat) (code':Int) (n:Nat) (w:World) (hr:regsB [a',b',c',d']=true) (hn:¬ (60:Int)<(on':Int)) (hp:belB p' n=true):
  Calls Tryz.prog 140 #[dV p a b c d oa on oc code,dV p' a' b' c' d' oa' on' oc' code',.int .i64 n] w fun e w'=>e=.returned (dV p' a' b' c' d' oa' on' oc' code')/\Below w.heap.size w w':=by
 have he:∀ wx,(binOp .neq 187 (regV a' b' c' d') (regV (clamp a') (clamp b') (clamp c') (clamp d'))).run Tryz.prog wx=.ok (.bool false) wx:=fun wx=>by rw [neq_regs,regEqB_clamp,hr];rfl
 go_enter Tryz.func140,Tryz.ntmps140
 go_wp2_with fail
 generalize hW:(((w.alloc (oQ3 p a b c d oa on oc code)).alloc (oQ3 p' a' b' c' d' oa' on' oc' code')).alloc (zQ1))=W at *
 obtain ⟨k0,k1,k2,k3,k4,k5,k6,x0,x1,x2,x3,x4,x5,x6,r0,r1,r2,r3,r4,r5,r6,kf,xf,rf,l2,BW'⟩:=diF_w1 hW
 have BW:Hid (Below w.heap.size w W):=BW'
 clear BW'
 clear hW
 have l0:w.heap.size<W.heap.size:=by omega
 have l1:w.heap.size+1<W.heap.size:=by omega
 have x0':=cell_regrown x0
 have x1':=cell_regrown x1
 have x2':=cell_regrown x2
 have x3':=cell_regrown x3
 have x4':=cell_regrown x4
 have x5':=cell_regrown x5
 have x6':=cell_regrown x6
 refine wp_region_quiet_below (by kernel_rfl) (by kernel_rfl) ?_
 repeat (quiet_step (first|(go_at_call 158;exact Calls.regrown_of (held_any _ _ _ _ _))))
 refine wpQuiet_nil ?_
 intro _ hw'
 obtain ⟨⟨dq,osq⟩,hw''⟩:=hw'
 subst hw''
 have b3:=below_regrown W dq osq
 have B3:Hid (Below w.heap.size w (grow (redrawn W dq) osq)):=BW.out.trans (b3.mono BW.out.size)
 obtain ⟨hc3,hf3⟩:=bcell b3
 generalize grow (redrawn W dq) osq=w3 at *
 clear b3 x0' x1' x2' x3' x4' x5' x6' he BW hr
 go_wp2_with (go_at_call 86;refine (isBelow_any _ _ _).mono ?_;rintro e w' ⟨rfl,rfl⟩)
 refine bodyPost_ret (v:=dV p' a' b' c' d' oa' on' oc' code') (by simp [results,Tryz.results140,go_sem,hc3,l2,r0,r1,r2,r3,r4,r5,r6]) rfl ⟨rfl,?_⟩
 have:=B3.out
 go_grown
