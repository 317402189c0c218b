import Derived.Test.YtpehpclhdgpjkaaGreatDoorXe0
import Derived.Test.YtpehpclhdgpjkaaGreatDoorXe1
import Derived.Test.YtpehpclhdgpjkaaGreatDoorXe2
import Derived.Lib.QuietBelow
import Derived.ChangeKeysEq
import Derived.Maps.AppendAt
namespace Go.Proofs.YtpehpclhdgpjkaaGreatDoor
set_option maxRecDepth 100000
set_option maxHeartbeats 1000000
open Go.RowKit
theorem ret_bool {x y:Bool} (h:x=y):Ending.returned (.bool x)=.returned (.bool y):=by rw [h]
theorem specInsOk_1 (r a b n places procs:Int) (w:World) (h1:inB r 0 3=true) (h2:inB a 0 3=true) (h3:inB b 0 3=true) (h4:inB procs 1 4=true) (h5:1<=procs) (h6:procs<=4):
  Calls Tryz.prog 100 #[insV 1 r a b n,.int .i64 places,.int .i64 procs] w fun e w'=>e=.returned (.bool (inB n (-1000000000) 1000000000 && a == 0 && b == 0))/\Below w.heap.size w w':=by
 go_enter Tryz.func100,Tryz.ntmps100
 go_wp2_with (first|(go_at_call 68;refine (l1In_any _ _ _ _).mono ?_;rintro e w' ⟨rfl,rfl⟩)|(go_at_call 101;refine (l1Num_any _ _).mono ?_;rintro e w' ⟨rfl,rfl⟩))
 all_goals
  go_ret
  refine ⟨ret_bool ?_,by go_grown⟩
  first | rfl | (simp [*];done)
theorem specInsOk_2 (r a b n places procs:Int) (w:World) (h1:inB r 0 3=true) (h2:inB a 0 3=true) (h3:inB b 0 3=true) (h4:inB procs 1 4=true) (h5:1<=procs) (h6:procs<=4):
  Calls Tryz.prog 100 #[insV 2 r a b n,.int .i64 places,.int .i64 procs] w fun e w'=>e=.returned (.bool (n == 0))/\Below w.heap.size w w':=by
 go_enter Tryz.func100,Tryz.ntmps100
 go_wp2_with (first|(go_at_call 68;refine (l1In_any _ _ _ _).mono ?_;rintro e w' ⟨rfl,rfl⟩)|(go_at_call 101;refine (l1Num_any _ _).mono ?_;rintro e w' ⟨rfl,rfl⟩))
 all_goals
  go_ret
  refine ⟨ret_bool ?_,by go_grown⟩
  first | rfl | (simp [*];done)
theorem specInsOk_3 (r a b n places procs:Int) (w:World) (h1:inB r 0 3=true) (h2:inB a 0 3=true) (h3:inB b 0 3=true) (h4:inB procs 1 4=true) (h5:1<=procs) (h6:procs<=4):
  Calls Tryz.prog 100 #[insV 3 r a b n,.int .i64 places,.int .i64 procs] w fun e w'=>e=.returned (.bool (n == 0))/\Below w.heap.size w w':=by
 go_enter Tryz.func100,Tryz.ntmps100
 go_wp2_with (first|(go_at_call 68;refine (l1In_any _ _ _ _).mono ?_;rintro e w' ⟨rfl,rfl⟩)|(go_at_call 101;refine (l1Num_any _ _).mono ?_;rintro e w' ⟨rfl,rfl⟩))
 all_goals
  go_ret
  refine ⟨ret_bool ?_,by go_grown⟩
  first | rfl | (simp [*];done)
theorem specInsOk_4 (r a b n places procs:Int) (w:World) (h1:inB r 0 3=true) (h2:inB a 0 3=true) (h3:inB b 0 3=true) (h4:inB procs 1 4=true) (h5:1<=procs) (h6:procs<=4):
  Calls Tryz.prog 100 #[insV 4 r a b n,.int .i64 places,.int .i64 procs] w fun e w'=>e=.returned (.bool (n == 0))/\Below w.heap.size w w':=by
 go_enter Tryz.func100,Tryz.ntmps100
 go_wp2_with (first|(go_at_call 68;refine (l1In_any _ _ _ _).mono ?_;rintro e w' ⟨rfl,rfl⟩)|(go_at_call 101;refine (l1Num_any _ _).mono ?_;rintro e w' ⟨rfl,rfl⟩))
 all_goals
  go_ret
  refine ⟨ret_bool ?_,by go_grown⟩
  first | rfl | (simp [*];done)
theorem specInsOk_5 (r a b n places procs:Int) (w:World) (h1:inB r 0 3=true) (h2:inB a 0 3=true) (h3:inB b 0 3=true) (h4:inB procs 1 4=true) (h5:1<=procs) (h6:procs<=4):
  Calls Tryz.prog 100 #[insV 5 r a b n,.int .i64 places,.int .i64 procs] w fun e w'=>e=.returned (.bool (n == 0))/\Below w.heap.size w w':=by
 go_enter Tryz.func100,Tryz.ntmps100
 go_wp2_with (first|(go_at_call 68;refine (l1In_any _ _ _ _).mono ?_;rintro e w' ⟨rfl,rfl⟩)|(go_at_call 101;refine (l1Num_any _ _).mono ?_;rintro e w' ⟨rfl,rfl⟩))
 all_goals
  go_ret
  refine ⟨ret_bool ?_,by go_grown⟩
  first | rfl | (simp [*];done)
theorem specInsOk_6 (r a b n places procs:Int) (w:World) (h1:inB r 0 3=true) (h2:inB a 0 3=true) (h3:inB b 0 3=true) (h4:inB procs 1 4=true) (h5:1<=procs) (h6:procs<=4):
  Calls Tryz.prog 100 #[insV 6 r a b n,.int .i64 places,.int .i64 procs] w fun e w'=>e=.returned (.bool (inB n 0 (procs - 1) && r == 0 && b == 0))/\Below w.heap.size w w':=by
 go_enter Tryz.func100,Tryz.ntmps100
 go_wp2_with (first|(go_at_call 68;refine (l1In_any _ _ _ _).mono ?_;rintro e w' ⟨rfl,rfl⟩)|(go_at_call 101;refine (l1Num_any _ _).mono ?_;rintro e w' ⟨rfl,rfl⟩))
 all_goals
  go_ret
  refine ⟨ret_bool ?_,by go_grown⟩
  first | rfl | (simp [*];done)
theorem specInsOk_7 (r a b n places procs:Int) (w:World) (h1:inB r 0 3=true) (h2:inB a 0 3=true) (h3:inB b 0 3=true) (h4:inB procs 1 4=true) (h5:1<=procs) (h6:procs<=4):
  Calls Tryz.prog 100 #[insV 7 r a b n,.int .i64 places,.int .i64 procs] w fun e w'=>e=.returned (.bool ((inB n 0 (procs - 1) || n == 9) && a == 0 && b == 0))/\Below w.heap.size w w':=by
 go_enter Tryz.func100,Tryz.ntmps100
 go_wp2_with (first|(go_at_call 68;refine (l1In_any _ _ _ _).mono ?_;rintro e w' ⟨rfl,rfl⟩)|(go_at_call 101;refine (l1Num_any _ _).mono ?_;rintro e w' ⟨rfl,rfl⟩))
 all_goals
  go_ret
  refine ⟨ret_bool ?_,by go_grown⟩
  first | rfl | (simp [*];done)
theorem specInsOk_8 (r a b n places procs:Int) (w:World) (h1:inB r 0 3=true) (h2:inB a 0 3=true) (h3:inB b 0 3=true) (h4:inB procs 1 4=true) (h5:1<=procs) (h6:procs<=4):
  Calls Tryz.prog 100 #[insV 8 r a b n,.int .i64 places,.int .i64 procs] w fun e w'=>e=.returned (.bool (r == 0 && b == 0 && n == 0))/\Below w.heap.size w w':=by
 go_enter Tryz.func100,Tryz.ntmps100
 go_wp2_with (first|(go_at_call 68;refine (l1In_any _ _ _ _).mono ?_;rintro e w' ⟨rfl,rfl⟩)|(go_at_call 101;refine (l1Num_any _ _).mono ?_;rintro e w' ⟨rfl,rfl⟩))
 all_goals
  go_ret
  refine ⟨ret_bool ?_,by go_grown⟩
  first | rfl | (simp [*];done)
theorem specInsOk_9 (r a b n places procs:Int) (w:World) (h1:inB r 0 3=true) (h2:inB a 0 3=true) (h3:inB b 0 3=true) (h4:inB procs 1 4=true) (h5:1<=procs) (h6:procs<=4):
  Calls Tryz.prog 100 #[insV 9 r a b n,.int .i64 places,.int .i64 procs] w fun e w'=>e=.returned (.bool (belB n places && r == 0 && a == 0 && b == 0))/\Below w.heap.size w w':=by
 go_enter Tryz.func100,Tryz.ntmps100
 go_wp2_with (first|(go_at_call 68;refine (l1In_any _ _ _ _).mono ?_;rintro e w' ⟨rfl,rfl⟩)|(go_at_call 101;refine (l1Num_any _ _).mono ?_;rintro e w' ⟨rfl,rfl⟩))
 all_goals
  go_ret
  refine ⟨ret_bool ?_,by go_grown⟩
  first | rfl | (simp [*,belB];done)|(simp [*,belB];omega)
theorem specInsOk_10 (r a b n places procs:Int) (w:World) (h1:inB r 0 3=true) (h2:inB a 0 3=true) (h3:inB b 0 3=true) (h4:inB procs 1 4=true) (h5:1<=procs) (h6:procs<=4):
  Calls Tryz.prog 100 #[insV 10 r a b n,.int .i64 places,.int .i64 procs] w fun e w'=>e=.returned (.bool (belB n places && r == 0 && b == 0))/\Below w.heap.size w w':=by
 go_enter Tryz.func100,Tryz.ntmps100
 go_wp2_with (first|(go_at_call 68;refine (l1In_any _ _ _ _).mono ?_;rintro e w' ⟨rfl,rfl⟩)|(go_at_call 101;refine (l1Num_any _ _).mono ?_;rintro e w' ⟨rfl,rfl⟩))
 all_goals
  go_ret
  refine ⟨ret_bool ?_,by go_grown⟩
  first | rfl | (simp [*,belB];done)|(simp [*,belB];omega)
theorem specInsOk_11 (r a b n places procs:Int) (w:World) (h1:inB r 0 3=true) (h2:inB a 0 3=true) (h3:inB b 0 3=true) (h4:inB procs 1 4=true) (h5:1<=procs) (h6:procs<=4):
  Calls Tryz.prog 100 #[insV 11 r a b n,.int .i64 places,.int .i64 procs] w fun e w'=>e=.returned (.bool (r == 0 && a == 0 && b == 0 && n == 0))/\Below w.heap.size w w':=by
 go_enter Tryz.func100,Tryz.ntmps100
 go_wp2_with (first|(go_at_call 68;refine (l1In_any _ _ _ _).mono ?_;rintro e w' ⟨rfl,rfl⟩)|(go_at_call 101;refine (l1Num_any _ _).mono ?_;rintro e w' ⟨rfl,rfl⟩))
 all_goals
  go_ret
  refine ⟨ret_bool ?_,by go_grown⟩
  first | rfl | (simp [*];done)
theorem specInsOk_none (op r a b n places procs:Int) (w:World) (h1:inB r 0 3=true) (h2:inB a 0 3=true) (h3:inB b 0 3=true) (h4:inB procs 1 4=true) (h5:1<=procs) (h6:procs<=4) (h:op<1\/11<op):
  Calls Tryz.prog 100 #[insV op r a b n,.int .i64 places,.int .i64 procs] w fun e w'=>e=.returned (.bool false)/\Below w.heap.size w w':=by
 have g1:(op == 1)=false:=by simp;omega
 have g2:(op == 2)=false:=by simp;omega
 have g3:(op == 3)=false:=by simp;omega
 have g4:(op == 4)=false:=by simp;omega
 have g5:(op == 5)=false:=by simp;omega
 have g6:(op == 6)=false:=by simp;omega
 have g7:(op == 7)=false:=by simp;omega
 have g8:(op == 8)=false:=by simp;omega
 have g9:(op == 9)=false:=by simp;omega
 have g10:(op == 10)=false:=by simp;omega
 have g11:(op == 11)=false:=by simp;omega
 clear h
 go_enter Tryz.func100,Tryz.ntmps100
 go_wp2_with (first|(go_at_call 68;refine (l1In_any _ _ _ _).mono ?_;rintro e w' ⟨rfl,rfl⟩)|(go_at_call 101;refine (l1Num_any _ _).mono ?_;rintro e w' ⟨rfl,rfl⟩))
 all_goals
  go_ret
  exact ⟨rfl,by go_grown⟩
theorem specInsOk_out (op r a b n places procs:Int) (w:World) (h:(inB r 0 3 && inB a 0 3 && inB b 0 3 && inB procs 1 4)=false):
  Calls Tryz.prog 100 #[insV op r a b n,.int .i64 places,.int .i64 procs] w fun e w'=>e=.returned (.bool false)/\Below w.heap.size w w':=by
 rcases zK (inB r 0 3) with h1 | h1
 ·rcases zK (inB a 0 3) with h2 | h2
  ·rcases zK (inB b 0 3) with h3 | h3
   ·have h4:inB procs 1 4=false:=by simpa [h1,h2,h3] using h
    clear h
    go_enter Tryz.func100,Tryz.ntmps100
    go_wp2_with (first|(go_at_call 68;refine (l1In_any _ _ _ _).mono ?_;rintro e w' ⟨rfl,rfl⟩)|(go_at_call 101;refine (l1Num_any _ _).mono ?_;rintro e w' ⟨rfl,rfl⟩))
    go_ret
    exact ⟨rfl,by go_grown⟩
   ·clear h
    go_enter Tryz.func100,Tryz.ntmps100
    go_wp2_with (first|(go_at_call 68;refine (l1In_any _ _ _ _).mono ?_;rintro e w' ⟨rfl,rfl⟩)|(go_at_call 101;refine (l1Num_any _ _).mono ?_;rintro e w' ⟨rfl,rfl⟩))
    go_ret
    exact ⟨rfl,by go_grown⟩
  ·clear h
   go_enter Tryz.func100,Tryz.ntmps100
   go_wp2_with (first|(go_at_call 68;refine (l1In_any _ _ _ _).mono ?_;rintro e w' ⟨rfl,rfl⟩)|(go_at_call 101;refine (l1Num_any _ _).mono ?_;rintro e w' ⟨rfl,rfl⟩))
   go_ret
   exact ⟨rfl,by go_grown⟩
 ·clear h
  go_enter Tryz.func100,Tryz.ntmps100
  go_wp2_with (first|(go_at_call 68;refine (l1In_any _ _ _ _).mono ?_;rintro e w' ⟨rfl,rfl⟩)|(go_at_call 101;refine (l1Num_any _ _).mono ?_;rintro e w' ⟨rfl,rfl⟩))
  go_ret
  exact ⟨rfl,by go_grown⟩
open Go.Sort
def numB (x:Int):Bool:=inB x (-1000000000) 1000000000
def allN (xs:List Int):Bool:=xs.all numB
theorem zi_mem {xs:List Int} {k:Nat} (hk:k<xs.length):zi xs k ∈ xs:=by
 unfold zi
 rw [List.getD_eq_getElem?_getD,List.getElem?_eq_getElem hk]
 exact List.getElem_mem hk
theorem allN_false {xs:List Int} {k:Nat} (hk:k<xs.length) (h:numB (zi xs k)=false):allN xs=false:=by
 rw [allN,List.all_eq_false]
 exact ⟨_,zi_mem hk,by simp [h]⟩
theorem mem_zi {xs:List Int} {x:Int} (h:x ∈ xs):∃ k,k<xs.length/\zi xs k=x:=by
 obtain ⟨k,hk,e⟩:=List.getElem_of_mem h
 refine ⟨k,hk,?_⟩
 unfold zi
 rw [List.getD_eq_getElem?_getD,List.getElem?_eq_getElem hk]
 exact e
theorem allN_true {xs:List Int} (h:∀ k,k<xs.length->numB (zi xs k)=true):allN xs=true:=by
 rw [allN,List.all_eq_true]
 intro x hx
 obtain ⟨k,hk,rfl⟩:=mem_zi hx
 exact h k hk
def outB (xs:List Int):Bool:=decide ((xs.length:Int)<=60) && allN xs
def regsB (xs:List Int):Bool:=((xs.length:Int) == 4) && allN xs
def stOkB (n:Nat) (p:Int) (rs os:List Int) (code:Int):Bool:=regsB rs && inB code 0 2 && belB p n && outB os
theorem outOk_any (a0:Option Addr) (cap:Nat) (xs:List Int) (w:World) (hlen:xs.length<=1048576) (h:Sl w a0 xs):
  Calls Tryz.prog 160 #[.slice a0 xs.length cap] w fun e w'=>e=.returned (.bool (outB xs))/\w'=w:=by
 have hl':(xs.length:Int)<=1048576:=by omega
 by_cases h60:(xs.length:Int)<=60
 case neg=>
  have hg:60<(xs.length:Int):=by omega
  have HV:Hid (outB xs=false):=by simp [Hid,outB,h60]
  clear h60
  go_enter Tryz.func160,Tryz.ntmps160
  go_wp2
  go_ret
  exact ⟨by rw [HV.out];rfl,rfl⟩
 case pos=>
  have HV:Hid (outB xs=allN xs):=by simp [Hid,outB,h60]
  have hg:¬ 60<(xs.length:Int):=by omega
  have HS:Hid (Sl w a0 xs):=h
  clear h h60
  go_enter Tryz.func160,Tryz.ntmps160
  go_wp2_with fail
  go_loop [10] (fun i=>∃ k:Nat,k<=xs.length/\i=.int .i64 k/\Hid (∀ t,t<k->numB (zi xs t)=true)) (fun i=>xs.length - (intOf i).toNat)
  case atStart=>exact ⟨0,Nat.zero_le _,rfl,fun t ht=>by omega⟩
  case round=>
   obtain ⟨k,hk,rfl,HK⟩:=hrel
   by_cases hlt:k<xs.length
   ·have hlt':(k:Int)<(xs.length:Int):=by omega
    obtain ⟨b,off,rfl,hbl,ck⟩:=HS.out.at hlt
    rcases zK (numB (zi xs k)) with t0 | t0
    ·have T0:Hid (numB (zi xs k)=true):=t0
     have t1:inB (zi xs k) (-1000000000) 1000000000=true:=t0
     clear t0
     go_wp2_with (go_at_call 134;refine (isNum_any _ _).mono ?_;rintro e w' ⟨rfl,rfl⟩)
     go_round
     case rel=>
      refine ⟨k+1,by omega,by go_num,fun t ht=>?_⟩
      by_cases htk:t=k
      ·subst htk;exact T0.out
      ·exact HK.out t (by omega)
     case measure=>simp [intOf];omega
    ·have T0:Hid (allN xs=false):=allN_false hlt t0
     have t1:inB (zi xs k) (-1000000000) 1000000000=false:=t0
     clear t0
     go_wp2_with (go_at_call 134;refine (isNum_any _ _).mono ?_;rintro e w' ⟨rfl,rfl⟩)
     go_ret
     exact ⟨by rw [HV.out,T0.out];rfl,rfl⟩
   ·have hlt':¬ (k:Int)<(xs.length:Int):=by omega
    have T0:Hid (allN xs=true):=allN_true fun t ht=>HK.out t (by omega)
    clear HK
    go_wp2
    go_ret
    exact ⟨by rw [HV.out,T0.out];rfl,rfl⟩
theorem clamp_eq {x:Int}:clamp x=x ↔ numB x=true:=by
 unfold clamp cmin cmax numB inB
 simp only [decide_eq_true_eq]
 by_cases h1:x < -1000000000
 ·rw [if_pos h1,if_neg (by omega)];omega
 ·rw [if_neg h1]
  by_cases h2:1000000000<x
  ·rw [if_pos h2];omega
  ·rw [if_neg h2];simp;omega
def regEqB (a b c d a' b' c' d':Int):Bool:=a == a' && (b == b' && (c == c' && d == d'))
theorem eql_regs (a b c d a' b' c' d':Int) (w:World):(binOp .eql 187 (regV a b c d) (regV a' b' c' d')).run Tryz.prog w=.ok (.bool (regEqB a b c d a' b' c' d')) w:=by
 have hinfo:=infoInt
 cases hi:Tryz.prog.info? 3 with
 | none=>rw [hi] at hinfo;cases hinfo
 | some i=>
  rw [run_eql_struct,show (10000:Nat)=9998+1+1 from rfl,run_equalIn_array w (9998+1) _ _ Tryz.underlying187 hi,show Tryz.prog.cellsOf 3=1 by kernel_rfl,show List.range 4=[0,1,2,3] from rfl]
  have hp:∀ (vs:Array Value) (j:Nat) (v:Value) (w:World),vs[j]? = some v->(part 3 vs j).run Tryz.prog w=.ok v w:=by
   intro vs j v w hv
   simp [part,go_sem,hv]
  have p0:=hp #[.int .i64 a,.int .i64 b,.int .i64 c,.int .i64 d] 0 (.int .i64 a) w rfl
  have p1:=hp #[.int .i64 a,.int .i64 b,.int .i64 c,.int .i64 d] 1 (.int .i64 b) w rfl
  have p2:=hp #[.int .i64 a,.int .i64 b,.int .i64 c,.int .i64 d] 2 (.int .i64 c) w rfl
  have p3:=hp #[.int .i64 a,.int .i64 b,.int .i64 c,.int .i64 d] 3 (.int .i64 d) w rfl
  have q0:=hp #[.int .i64 a',.int .i64 b',.int .i64 c',.int .i64 d'] 0 (.int .i64 a') w rfl
  have q1:=hp #[.int .i64 a',.int .i64 b',.int .i64 c',.int .i64 d'] 1 (.int .i64 b') w rfl
  have q2:=hp #[.int .i64 a',.int .i64 b',.int .i64 c',.int .i64 d'] 2 (.int .i64 c') w rfl
  have q3:=hp #[.int .i64 a',.int .i64 b',.int .i64 c',.int .i64 d'] 3 (.int .i64 d') w rfl
  have hq:∀ x y,(Op.equalIn 9999 3 (.int .i64 x) (.int .i64 y)).run Tryz.prog w=.ok (x == y) w:=fun x y=>run_equalIn_int (P:=Tryz.prog) w 9998 3 .i64 .i64 x y Tryz.underlying3
  clear hp hinfo hi
  simp only [regEqB]
  cases h1:(a == a') <;> cases h2:(b == b') <;> cases h3:(c == c') <;> cases h4:(d == d') <;> simp only [Op.eqItems,Sem.run_bind,Sem.run_pure,Sem.run_ite,Result.andThen_ok,Bool.not_true,Bool.not_false,if_true,if_false,Bool.false_eq_true,Nat.mul_one,Bool.and_true,Bool.and_false,p0,p1,p2,p3,q0,q1,q2,q3,hq,h1,h2,h3,h4]
theorem regEqB_clamp (a b c d:Int):regEqB a b c d (clamp a) (clamp b) (clamp c) (clamp d)=regsB [a,b,c,d]:=by
 have h:∀ x,(x == clamp x)=numB x:=fun x=>by
  rw [Bool.eq_iff_iff,<- clamp_eq,beq_iff_eq];exact eq_comm
 unfold regEqB regsB allN
 rw [h,h,h,h]
 simp
theorem zQ {w:World} {b:Nat} (o:Obj) (j:Nat) (h:b<w.heap.size):(w.alloc o).cell? ⟨b,j,none⟩=w.cell? ⟨b,j,none⟩:=zH (Below.heap_alloc w o b h)
theorem Calls.regrown_same {P:Program} {f:FuncId} {args:Array Value} {w:World} {d:Nat} {os:Array Obj} {v:Value}
  (h:Calls P f args (grow (redrawn w d) os) fun e w'=>e=.returned v/\w'=grow (redrawn w d) os):Calls P f args (grow (redrawn w d) os) fun e w''=>e=.returned v/\∃ p:Regrown,w''=grow (redrawn w p.d) p.os:=
 h.mono fun _ _ ⟨he,hw⟩=>⟨he,⟨d,os⟩,hw⟩
theorem implStateOk_four (la:Option Addr) (n lc:Nat) (p code:Int) (ra oa:Option Addr) (rc oc:Nat) (a b c d:Int) (os:List Int) (w:World) (ho:os.length<=1048576) (h1:Sl w ra [a,b,c,d]) (h2:Sl w oa os):
  Calls Tryz.prog 143 #[.slice la n lc,stV p ra 4 rc oa os.length oc code] w fun e w'=>e=.returned (.bool (stOkB n p [a,b,c,d] os code))/\Below w.heap.size w w':=by
 have H1:Hid (Sl w ra [a,b,c,d]):=h1
 have H2:Hid (Sl w oa os):=h2
 clear h1 h2
 go_enter Tryz.func143,Tryz.ntmps143
 go_wp2_with fail
 refine (registersOf_any ra rc [a,b,c,d] _ (H1.out.below (by go_grown))).mono ?_
 rintro e w1 ⟨⟨r0,r1,r2,r3,rfl,hr⟩,b1⟩
 have B1:Hid (Below w.heap.size w w1):=below_up (by go_grown) b1 (by simp)
 have y0:w.heap.size<w1.heap.size:=by have:=b1.size;simp at this;omega
 have hr':=hr rfl
 simp only [List.cons.injEq,and_true] at hr'
 obtain ⟨rfl,rfl,rfl,rfl⟩:=hr'
 obtain ⟨hc1,hf1⟩:=bcell b1
 clear b1 hr
 go_wp2_with fail
 have B2:Hid (Below w.heap.size w (w1.alloc (.cells #[.int .i64 a,.int .i64 b,.int .i64 c,.int .i64 d] 187))):=B1.out.alloc (by omega) _
 generalize hW:(w1.alloc (.cells #[.int .i64 a,.int .i64 b,.int .i64 c,.int .i64 d] 187))=W at *
 have k0:W.cell? ⟨w1.heap.size,0,none⟩=some (.int .i64 a):=by rw [<- hW];simp
 have k1:W.cell? ⟨w1.heap.size,1,none⟩=some (.int .i64 b):=by rw [<- hW];simp
 have k2:W.cell? ⟨w1.heap.size,2,none⟩=some (.int .i64 c):=by rw [<- hW];simp
 have k3:W.cell? ⟨w1.heap.size,3,none⟩=some (.int .i64 d):=by rw [<- hW];simp
 have s0:W.cell? ⟨w.heap.size,0,none⟩=some (.int .i64 p):=by rw [<- hW,zQ _ _ y0,hc1 _ _ (by simp)];simp
 have s2:W.cell? ⟨w.heap.size,2,none⟩=some (.slice oa os.length oc):=by rw [<- hW,zQ _ _ y0,hc1 _ _ (by simp)];simp
 have s3:W.cell? ⟨w.heap.size,3,none⟩=some (.int .i64 code):=by rw [<- hW,zQ _ _ y0,hc1 _ _ (by simp)];simp
 clear hc1 hf1 hW B1 y0
 have k0':=cell_regrown k0
 have k1':=cell_regrown k1
 have k2':=cell_regrown k2
 have k3':=cell_regrown k3
 have s0':=cell_regrown s0
 have s2':=cell_regrown s2
 have s3':=cell_regrown s3
 have HO:Hid (∀ d os',Sl (grow (redrawn W d) os') oa os):=fun d os'=>(H2.out.below B2.out).below (below_regrown W d os')
 rcases zK (regsB [a,b,c,d]) with t1 | t1
 case inr=>
  have HV:Hid (stOkB n p [a,b,c,d] os code=false):=by simp [Hid,stOkB,t1]
  have he:∀ wx,(binOp .eql 187 (regV a b c d) (regV (clamp a) (clamp b) (clamp c) (clamp d))).run Tryz.prog wx=.ok (.bool false) wx:=fun wx=>by rw [eql_regs,regEqB_clamp,t1]
  clear t1
  refine wp_region_quiet_below (by kernel_rfl) (by kernel_rfl) ?_
  repeat (quiet_step (first|(go_at_call 158;exact Calls.regrown_of (held_any _ _ _ _ _))|(go_at_call 159;exact Calls.regrown_same (isCode_any _ _))|(go_at_call 86;exact Calls.regrown_same (isBelow_any _ _ _))|(go_at_call 160;exact Calls.regrown_same (outOk_any _ _ _ _ ho (HO.out _ _)))))
  refine wpQuiet_nil ?_
  intro _ hw'
  obtain ⟨⟨dq,osq⟩,hw''⟩:=hw'
  subst hw''
  have B3:Hid (Below w.heap.size w (grow (redrawn W dq) osq)):=B2.out.trans ((below_regrown W dq osq).mono B2.out.size)
  generalize grow (redrawn W dq) osq=w3 at *
  clear k0' k1' k2' k3' s0' s2' s3' HO he
  go_wp2
  go_ret
  exact ⟨by rw [HV.out];rfl,B3.out⟩
 have he:∀ wx,(binOp .eql 187 (regV a b c d) (regV (clamp a) (clamp b) (clamp c) (clamp d))).run Tryz.prog wx=.ok (.bool true) wx:=fun wx=>by rw [eql_regs,regEqB_clamp,t1]
 rcases zK (inB code 0 2) with t2 | t2
 case inr=>
  have HV:Hid (stOkB n p [a,b,c,d] os code=false):=by simp [Hid,stOkB,t2]
  clear t1
  refine wp_region_quiet_below (by kernel_rfl) (by kernel_rfl) ?_
  repeat (quiet_step (first|(go_at_call 158;exact Calls.regrown_of (held_any _ _ _ _ _))|(go_at_call 159;exact Calls.regrown_same (isCode_any _ _))|(go_at_call 86;exact Calls.regrown_same (isBelow_any _ _ _))|(go_at_call 160;exact Calls.regrown_same (outOk_any _ _ _ _ ho (HO.out _ _)))))
  refine wpQuiet_nil ?_
  intro _ hw'
  obtain ⟨⟨dq,osq⟩,hw''⟩:=hw'
  subst hw''
  have B3:Hid (Below w.heap.size w (grow (redrawn W dq) osq)):=B2.out.trans ((below_regrown W dq osq).mono B2.out.size)
  generalize grow (redrawn W dq) osq=w3 at *
  clear k0' k1' k2' k3' s0' s2' s3' HO he
  go_wp2
  go_ret
  exact ⟨by rw [HV.out];rfl,B3.out⟩
 rcases zK (belB p n) with t3 | t3
 case inr=>
  have HV:Hid (stOkB n p [a,b,c,d] os code=false):=by simp [Hid,stOkB,t3]
  clear t1
  refine wp_region_quiet_below (by kernel_rfl) (by kernel_rfl) ?_
  repeat (quiet_step (first|(go_at_call 158;exact Calls.regrown_of (held_any _ _ _ _ _))|(go_at_call 159;exact Calls.regrown_same (isCode_any _ _))|(go_at_call 86;exact Calls.regrown_same (isBelow_any _ _ _))|(go_at_call 160;exact Calls.regrown_same (outOk_any _ _ _ _ ho (HO.out _ _)))))
  refine wpQuiet_nil ?_
  intro _ hw'
  obtain ⟨⟨dq,osq⟩,hw''⟩:=hw'
  subst hw''
  have B3:Hid (Below w.heap.size w (grow (redrawn W dq) osq)):=B2.out.trans ((below_regrown W dq osq).mono B2.out.size)
  generalize grow (redrawn W dq) osq=w3 at *
  clear k0' k1' k2' k3' s0' s2' s3' HO he
  go_wp2
  go_ret
  exact ⟨by rw [HV.out];rfl,B3.out⟩
 case inl=>
  have HV:Hid (stOkB n p [a,b,c,d] os code=outB os):=by simp [Hid,stOkB,t1,t2,t3]
  clear t1
  refine wp_region_quiet_below (by kernel_rfl) (by kernel_rfl) ?_
  repeat (quiet_step (first|(go_at_call 158;exact Calls.regrown_of (held_any _ _ _ _ _))|(go_at_call 159;exact Calls.regrown_same (isCode_any _ _))|(go_at_call 86;exact Calls.regrown_same (isBelow_any _ _ _))|(go_at_call 160;exact Calls.regrown_same (outOk_any _ _ _ _ ho (HO.out _ _)))))
  refine wpQuiet_nil ?_
  intro _ hw'
  obtain ⟨⟨dq,osq⟩,hw''⟩:=hw'
  subst hw''
  have B3:Hid (Below w.heap.size w (grow (redrawn W dq) osq)):=B2.out.trans ((below_regrown W dq osq).mono B2.out.size)
  generalize grow (redrawn W dq) osq=w3 at *
  clear k0' k1' k2' k3' s0' s2' s3' HO he
  go_wp2
  go_ret
  exact ⟨by rw [HV.out];rfl,B3.out⟩
theorem implStateOk_not (la:Option Addr) (n lc:Nat) (p code:Int) (ra oa:Option Addr) (rc on oc:Nat) (rs:List Int) (w:World) (h4:rs.length≠4) (h1:Sl w ra rs):
  Calls Tryz.prog 143 #[.slice la n lc,stV p ra rs.length rc oa on oc code] w fun e w'=>e=.returned (.bool false)/\Below w.heap.size w w':=by
 have H1:Hid (Sl w ra rs):=h1
 have h4':((rs.length:Int) == 4)=false:=by simp;omega
 clear h1 h4
 go_enter Tryz.func143,Tryz.ntmps143
 go_wp2_with fail
 refine (registersOf_any ra rc rs _ (H1.out.below (by go_grown))).mono ?_
 rintro e w1 ⟨⟨a,b,c,d,rfl,hr⟩,b1⟩
 have B1:Hid (Below w.heap.size w w1):=below_up (by go_grown) b1 (by simp)
 have y0:w.heap.size<w1.heap.size:=by have:=b1.size;simp at this;omega
 clear b1 hr
 go_wp2_with fail
 have B2:Hid (Below w.heap.size w (w1.alloc (.cells #[.int .i64 a,.int .i64 b,.int .i64 c,.int .i64 d] 187))):=B1.out.alloc (by omega) _
 generalize (w1.alloc (.cells #[.int .i64 a,.int .i64 b,.int .i64 c,.int .i64 d] 187))=W at *
 go_quiet (fail)
 go_wp2
 go_ret
 exact ⟨rfl,yB B2.out _⟩
theorem implStateOk_any (la:Option Addr) (n lc:Nat) (p code:Int) (ra oa:Option Addr) (rc oc:Nat) (rs os:List Int) (w:World) (ho:os.length<=1048576) (h1:Sl w ra rs) (h2:Sl w oa os):
  Calls Tryz.prog 143 #[.slice la n lc,stV p ra rs.length rc oa os.length oc code] w fun e w'=>e=.returned (.bool (stOkB n p rs os code))/\Below w.heap.size w w':=by
 by_cases h4:rs.length=4
 ·match rs,h4,h1 with
  | [a,b,c,d],_,h1=>exact implStateOk_four la n lc p code ra oa rc oc a b c d os w ho h1 h2
 ·have hv:stOkB n p rs os code=false:=by
   have:((rs.length:Int) == 4)=false:=by simp;omega
   simp [stOkB,regsB,this]
  rw [hv]
  exact implStateOk_not la n lc p code ra oa rc os.length oc rs w h4 h1
theorem info_int:∃ i,Tryz.prog.info? 3=some i/\i.zero=some (.int .i64 0)/\i.size=1/\i.bytes=8:=by
 have hinfo:=infoInt
 cases hi:Tryz.prog.info? 3 with
 | none=>rw [hi] at hinfo;cases hinfo
 | some i=>
  rw [hi] at hinfo
  simp only [Option.map_some,Option.some.injEq,Prod.mk.injEq] at hinfo
  exact ⟨i,rfl,hinfo⟩
theorem run_append_none (w:World) (ty:TypeId) (B c:Nat) (v:Value) (xs:List Int) (h:OwnI w B v xs):
  (Builtin.append_ #[48,48] ty #[v,.slice none 0 c]).run Tryz.prog w=.ok v w:=by
 obtain ⟨i,hi,_⟩:=info_int
 rcases h.2 with ⟨rfl,_⟩ | ⟨g,cap,cur,rfl,_,_,hnc,_⟩
 ·simp [Builtin.append_,run_underlying Tryz.underlying48,sizeOf,typeInfo,hi,Builtin.lenOf,Builtin.firstCells]
 ·simp [Builtin.append_,run_underlying Tryz.underlying48,sizeOf,typeInfo,hi,Builtin.lenOf,Builtin.firstCells,hnc,storeCells]
theorem run_append_ints (w:World) (ty:TypeId) (B c:Nat) (v:Value) (a0:Option Addr) (xs ys:List Int) (h:OwnI w B v xs) (hy:Sl w a0 ys) (hn:xs.length+ys.length<=4000000) (hB:B<=w.heap.size):
  ∃ v' w',(Builtin.append_ #[48,48] ty #[v,.slice a0 ys.length c]).run Tryz.prog w=.ok v' w'/\OwnI w' B v' (xs ++ ys)/\w.grownBy w' v.ownBlock/\(v'.ownBlock=v.ownBlock\/v'.ownBlock=some w.heap.size):=by
 obtain ⟨i,hi,hz,hs,hb⟩:=info_int
 cases a0 with
 | none=>
  have hy0:ys=[]:=by
   rcases hy with h0 | ⟨b,off,e,_⟩
   ·exact h0
   ·cases e
  subst hy0
  exact ⟨v,w,run_append_none w ty B c v xs h,by simpa using h,World.grownBy.refl _ _,.inl rfl⟩
 | some a=>
  have hnews:∀ j u,(ys.map (Value.int .i64))[j]? = some u->w.cell? (a.add j)=some u:=by
   rcases hy with h0 | ⟨b,off,e,hlt,hc⟩
   ·subst h0;intro j u hj;simp at hj
   ·cases e
    exact src_of_sl (.inr ⟨b,off,rfl,hlt,hc⟩) (Below.refl _ _)
  obtain ⟨v',w',h1,h2,h3,_,h5⟩:=run_append_own_at (P:=Tryz.prog) w B 48 ty 3 i (.int .i64 0) 1 8 Tryz.underlying48 hi hz hs hb rfl (by decide) v xs.length (xs.map (Value.int .i64)) h a ys.length c (ys.map (Value.int .i64)) (by simp) hnews (one_ints ys) (by unfold maxLen;omega) (by omega) hB
  refine ⟨v',w',h1,?_,h3,h5⟩
  unfold OwnI
  rw [List.length_append,List.map_append]
  exact h2
theorem wpList_append_ints {ops:Array Oper} {rest:List Oper} {op:Oper} {act:Act} {Q:Exit->Act->World->Prop} (w:World) (hgd:op.guard=none) (s x:Operand)
  (ho:op.op=.call { callee:=.builtin .append,args:=#[s,x],argTypes:=#[48,48] })
  (B c:Nat) (v:Value) (a0:Option Addr) (xs ys:List Int) (hs:act.eval s=v) (hx:act.eval x=.slice a0 ys.length c) (hv:OwnI w B v xs) (hy:Sl w a0 ys) (hn:xs.length+ys.length<=4000000) (hB:B<=w.heap.size)
  (h:∀ v' w',OwnI w' B v' (xs ++ ys)->w.grownBy w' v.ownBlock->(v'.ownBlock=v.ownBlock\/v'.ownBlock=some w.heap.size)->wpList Tryz.prog ops Q rest (act.put op.dst v') w'):
  wpList Tryz.prog ops Q (op :: rest) act w:=by
 obtain ⟨v',w',h1,h2,h3,h4⟩:=run_append_ints w op.type B c v a0 xs ys hv hy hn hB
 refine wpList_plain hgd fun K hK=>?_
 unfold Oper.wp execOp
 simp only [ho,resolve,invoke,builtin,Sem.run_bind,Sem.run_pure,Result.andThen_ok,List.map_toArray,List.map_cons,List.map_nil,hs,hx,h1]
 exact hK _ _ (h v' w' h2 h3 h4)
theorem own_empty (w:World):OwnI (w.alloc (.cells #[] 3)) w.heap.size (.slice (some ⟨w.heap.size,0,none⟩) 0 0) []:=
 World.ownsRow_made (base:=w.heap.size) (e:=3) (size:=1) w #[] 0 (Nat.le_refl _) (by unfold maxLen;omega) rfl
theorem own_emptyN (w:World) {N:Nat} (h:N=w.heap.size):OwnI (w.alloc (.cells #[] 3)) N (.slice (some ⟨N,0,none⟩) 0 0) []:=by
 subst h
 exact own_empty w
theorem wpList_append_new {ops:Array Oper} {rest:List Oper} {op:Oper} {act:Act} {Q:Exit->Act->World->Prop} (w:World) {N:Nat} (hN:N=w.heap.size) (hgd:op.guard=none) (s x:Operand)
  (ho:op.op=.call { callee:=.builtin .append,args:=#[s,x],argTypes:=#[48,48] })
  (c:Nat) (a0:Option Addr) (ys:List Int) (hs:act.eval s=.slice (some ⟨N,0,none⟩) 0 0) (hx:act.eval x=.slice a0 ys.length c) (hy:Sl w a0 ys) (hn:ys.length<=1048576)
  (h:∀ v' w',OwnI w' w.heap.size v' ys->Below w.heap.size w w'->wpList Tryz.prog ops Q rest (act.put op.dst v') w'):
  wpList Tryz.prog ops Q (op :: rest) act (w.alloc (.cells #[] 3)):=by
 subst hN
 have hb:Below w.heap.size w (w.alloc (.cells #[] 3)):=(Below.refl _ _).alloc (Nat.le_refl _) _
 refine wpList_append_ints _ hgd s x ho w.heap.size c (.slice (some ⟨w.heap.size,0,none⟩) 0 0) a0 [] ys hs hx (own_empty w) (hy.below hb) (by simp;omega) (by simp) ?_
 intro v' w' o g _
 exact h v' w' (by simpa using o) (hb.grown g (by simp) (fun k hk=>by cases hk;exact Nat.le_refl _))
def STOP (p:Prop):Prop:=p
theorem append_stop {P:Program} {ops:Array Oper} {rest:List Oper} {op:Oper} {act:Act} {Q:Exit->Act->World->Prop} {w:World} {a:Array Operand} {t:Array TypeId} (_:op.op=.call { callee:=.builtin .append,args:=a,argTypes:=t }) (h:STOP (wpList P ops Q (op :: rest) act w)):wpList P ops Q (op :: rest) act w:=h
theorem clone_any (a0:Option Addr) (cap:Nat) (xs:List Int) (w:World) (hlen:xs.length<=1048576) (h:Sl w a0 xs):
  Calls Tryz.prog 146 #[.slice a0 xs.length cap] w fun e w'=>∃ v,e=.returned v/\OwnI w' w.heap.size v xs/\Below w.heap.size w w':=by
 cases a0 with
 | none=>
  have h0:xs=[]:=by
   rcases h with h0 | ⟨b,off,e,_⟩
   ·exact h0
   ·cases e
  subst h0
  have he:∀ wx:World,(binOp .eql 48 (.slice none 0 cap) (.slice none 0 0)).run Tryz.prog wx=.ok (.bool true) wx:=fun wx=>by kernel_rfl
  go_enter Tryz.func146,Tryz.ntmps146
  go_wp2
  go_ret
  exact ⟨_,rfl,World.ownsRow_nil _ _ _ _,Below.refl _ _⟩
 | some a=>
  have HS:Hid (Sl w (some a) xs):=h
  have he:∀ wx:World,(binOp .eql 48 (.slice (some a) xs.length cap) (.slice none 0 0)).run Tryz.prog wx=.ok (.bool false) wx:=fun wx=>by kernel_rfl
  clear h
  go_enter Tryz.func146,Tryz.ntmps146
  go_wp2_with (at_builtin;refine wpList_append_ints _ rfl _ _ rfl w.heap.size cap (.slice (some ⟨w.heap.size,0,none⟩) 0 0) (some a) [] xs rfl rfl (own_empty w) (HS.out.below ((Below.refl _ _).alloc (Nat.le_refl _) _)) (by simp;omega) (by simp) ?_;intro v' w1 o1 g1 _;have HF:Hid (OwnI w1 w.heap.size v' xs/\Below w.heap.size w w1):=⟨by simpa using o1,((Below.refl _ _).alloc (Nat.le_refl _) _).grown g1 (by simp) (fun k hk=>by cases hk;exact Nat.le_refl _)⟩;clear o1 g1)
  go_ret
  exact ⟨_,rfl,HF.out⟩
theorem copyState_any (p code:Int) (ra oa:Option Addr) (rc oc:Nat) (rs os:List Int) (w:World) (hr:rs.length<=1048576) (ho:os.length<=1048576) (h1:Sl w ra rs) (h2:Sl w oa os):
  Calls Tryz.prog 137 #[stV p ra rs.length rc oa os.length oc code] w fun e w'=>∃ v,e=.returned v/\StOwn w' w.heap.size v p rs os code/\Below w.heap.size w w':=by
 have H1:Hid (Sl w ra rs):=h1
 have H2:Hid (Sl w oa os):=h2
 clear h1 h2
 go_enter Tryz.func137,Tryz.ntmps137
 go_wp2_with fail
 refine (clone_any ra rc rs _ hr (H1.out.below (by go_grown))).mono ?_
 rintro e w1 ⟨v1,rfl,o1,b1⟩
 have B1:Hid (Below w.heap.size w w1):=below_up (by go_grown) b1 (by simp;omega)
 obtain ⟨hc1,hf1⟩:=bcell b1
 have y1:w.heap.size+1<w1.heap.size:=by have:=b1.size;simp at this;omega
 have y0:w.heap.size<w1.heap.size:=by omega
 obtain ⟨ra1,rc1,rfl,_⟩:=o1.form
 have s0:w1.cell? ⟨w.heap.size,0,none⟩=some (.int .i64 p):=by rw [hc1 _ _ (by simp;omega)];simp
 have s1:w1.cell? ⟨w.heap.size,1,none⟩=some (.slice ra rs.length rc):=by rw [hc1 _ _ (by simp;omega)];simp
 have s2:w1.cell? ⟨w.heap.size,2,none⟩=some (.slice oa os.length oc):=by rw [hc1 _ _ (by simp;omega)];simp
 have s3:w1.cell? ⟨w.heap.size,3,none⟩=some (.int .i64 code):=by rw [hc1 _ _ (by simp;omega)];simp
 have L1:Hid (∀ k,(Value.slice ra1 rs.length rc1).ownBlock=some k->w.heap.size+1<k/\k<w1.heap.size):=fun k hk=>by have:=o1.lt k hk;simp at this;omega
 have BS:Hid (Below w.heap.size w (w1.setCell ⟨w.heap.size,1,none⟩ (.slice ra1 rs.length rc1))):=B1.out.setCell (by simp) _
 have O1:Hid (OwnI (w1.setCell ⟨w.heap.size,1,none⟩ (.slice ra1 rs.length rc1)) (w.heap.size+1+1) (.slice ra1 rs.length rc1) rs):=by
  simp only [World.size_alloc] at o1
  exact o1.setBelow (by simp;omega) _
 clear o1 b1 B1
 go_wp2_with fail
 refine (clone_any oa oc os _ ho (H2.out.below BS.out)).mono ?_
 rintro e w2 ⟨v2,rfl,o2,b2⟩
 have B2:Hid (Below w.heap.size w w2):=below_up BS.out b2 (by simp;omega)
 obtain ⟨hc2,hf2⟩:=bcell b2
 obtain ⟨oa2,oc2,rfl,_⟩:=o2.form
 have O1':Hid (OwnI w2 (w.heap.size+1+1) (.slice ra1 rs.length rc1) rs):=O1.out.below b2
 simp only [World.size_setCell] at o2
 have O2:Hid (OwnI w2 w1.heap.size (.slice oa2 os.length oc2) os):=o2
 clear o2 b2 BS O1
 go_wp2
 refine bodyPost_ret (v:=stV p ra1 rs.length rc1 oa2 os.length oc2 code) (by simp [results,Tryz.results137,go_sem,hc2,y1,hc1]) rfl ⟨_,rfl,⟨_,_,rfl,?_,?_,?_⟩,?_⟩
 ·refine OwnI.mono (B:=w.heap.size+1+1) ?_ (by omega)
  repeat (refine OwnI.setBelow ?_ (by simp<;>omega) _)
  exact O1'.out
 ·refine OwnI.mono (B:=w1.heap.size) ?_ (by omega)
  repeat (refine OwnI.setBelow ?_ (by simpa using by omega) _)
  exact O2.out
 ·intro k hk hk'
  have h1:=L1.out k hk
  have h2:=O2.out.lt k hk'
  omega
 ·have:=B2.out
  go_grown
theorem l2Copy_any (p code:Int) (ra oa:Option Addr) (rc oc:Nat) (rs os:List Int) (w:World) (hr:rs.length<=1048576) (ho:os.length<=1048576) (h1:Sl w ra rs) (h2:Sl w oa os):
  Calls Tryz.prog 121 #[stV p ra rs.length rc oa os.length oc code] w fun e w'=>∃ v,e=.returned v/\StOwn w' w.heap.size v p rs os code/\Below w.heap.size w w':=by
 have H1:Hid (Sl w ra rs):=h1
 have H2:Hid (Sl w oa os):=h2
 clear h1 h2
 go_enter Tryz.func121,Tryz.ntmps121
 go_wp2_with (at_builtin;refine append_stop rfl ?_)
 unfold STOP
 refine wpList_append_new _ (N:=w.heap.size+1+1) (by simp) rfl _ _ rfl rc ra rs rfl rfl (H1.out.below (by go_grown)) hr ?_
 intro v1 w1 o1 b1
 have B1:Hid (Below w.heap.size w w1):=below_up (by go_grown) b1 (by simp;omega)
 obtain ⟨hc1,hf1⟩:=bcell b1
 have y1:w.heap.size+1<w1.heap.size:=by have:=b1.size;simp at this;omega
 have y0:w.heap.size<w1.heap.size:=by omega
 obtain ⟨ra1,rc1,rfl,_⟩:=o1.form
 have s0:w1.cell? ⟨w.heap.size,0,none⟩=some (.int .i64 p):=by rw [hc1 _ _ (by simp;omega)];simp
 have s1:w1.cell? ⟨w.heap.size,1,none⟩=some (.slice ra rs.length rc):=by rw [hc1 _ _ (by simp;omega)];simp
 have s2:w1.cell? ⟨w.heap.size,2,none⟩=some (.slice oa os.length oc):=by rw [hc1 _ _ (by simp;omega)];simp
 have s3:w1.cell? ⟨w.heap.size,3,none⟩=some (.int .i64 code):=by rw [hc1 _ _ (by simp;omega)];simp
 have L1:Hid (∀ k,(Value.slice ra1 rs.length rc1).ownBlock=some k->w.heap.size+1<k/\k<w1.heap.size):=fun k hk=>by have:=o1.lt k hk;simp at this;omega
 have BS:Hid (Below w.heap.size w (w1.setCell ⟨w.heap.size,1,none⟩ (.slice ra1 rs.length rc1))):=B1.out.setCell (by simp) _
 have O1:Hid (OwnI (w1.setCell ⟨w.heap.size,1,none⟩ (.slice ra1 rs.length rc1)) (w.heap.size+1+1) (.slice ra1 rs.length rc1) rs):=by
  simp only [World.size_alloc] at o1
  exact o1.setBelow (by simp;omega) _
 clear o1 b1 B1
 go_wp2_with (at_builtin;refine append_stop rfl ?_)
 unfold STOP
 refine wpList_append_new (w1.setCell ⟨w.heap.size,1,none⟩ (.slice ra1 rs.length rc1)) (N:=w1.heap.size) (by simp) rfl _ _ rfl oc oa os rfl rfl (H2.out.below BS.out) ho ?_
 intro v2 w2 o2 b2
 have B2:Hid (Below w.heap.size w w2):=below_up BS.out b2 (by simp;omega)
 obtain ⟨hc2,hf2⟩:=bcell b2
 obtain ⟨oa2,oc2,rfl,_⟩:=o2.form
 have O1':Hid (OwnI w2 (w.heap.size+1+1) (.slice ra1 rs.length rc1) rs):=O1.out.below b2
 simp only [World.size_setCell] at o2
 have O2:Hid (OwnI w2 w1.heap.size (.slice oa2 os.length oc2) os):=o2
 clear o2 b2 BS O1
 go_wp2
 refine bodyPost_ret (v:=stV p ra1 rs.length rc1 oa2 os.length oc2 code) (by simp [results,Tryz.results121,go_sem,hc2,y1,hc1]) rfl ⟨_,rfl,⟨_,_,rfl,?_,?_,?_⟩,?_⟩
 ·refine OwnI.mono (B:=w.heap.size+1+1) ?_ (by omega)
  repeat (refine OwnI.setBelow ?_ (by simp<;>omega) _)
  exact O1'.out
 ·refine OwnI.mono (B:=w1.heap.size) ?_ (by omega)
  repeat (refine OwnI.setBelow ?_ (by simpa using by omega) _)
  exact O2.out
 ·intro k hk hk'
  have h1:=L1.out k hk
  have h2:=O2.out.lt k hk'
  omega
 ·have:=B2.out
  go_grown
theorem inB_below (p:Int) (n:Nat):inB p 0 ((n:Int) - 1)=belB p n:=by
 rw [Bool.eq_iff_iff];simp [inB,belB];omega
