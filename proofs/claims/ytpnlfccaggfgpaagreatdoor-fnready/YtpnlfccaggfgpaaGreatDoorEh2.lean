import Derived.Test.YtpnlfccaggfgpaaGreatDoorEh0
import Derived.Test.YtpnlfccaggfgpaaGreatDoorEh1
namespace Go.Proofs.YtpnlfccaggfgpaaGreatDoor
set_option maxRecDepth 100000
set_option maxHeartbeats 1000000
open Go.RowKit
theorem ret_bool {x y:Bool} (h:x=y):Ending.returned (.bool x)=.returned (.bool y):=by rw [h]
theorem specInsOk_1 (r a b n places procs:Int) (w:World) (h1:inB r 0 3=true) (h2:inB a 0 3=true) (h3:inB b 0 3=true) (h4:inB procs 1 4=true) (h5:1<=procs) (h6:procs<=4):
  Calls Tryz.prog 80 #[insV 1 r a b n,.int .i64 places,.int .i64 procs] w fun e w'=>e=.returned (.bool (inB n (-1000000000) 1000000000 && a == 0 && b == 0))/\Below w.heap.size w w':=by
 go_enter Tryz.func80,Tryz.ntmps80
 go_wp2_with (first|(go_at_call 37;refine (l1In_any _ _ _ _).mono ?_;rintro e w' ⟨rfl,rfl⟩)|(go_at_call 82;refine (l1Num_any _ _).mono ?_;rintro e w' ⟨rfl,rfl⟩))
 all_goals
  go_ret
  refine ⟨ret_bool ?_,by go_grown⟩
  first | rfl | (simp [*];done)
theorem specInsOk_2 (r a b n places procs:Int) (w:World) (h1:inB r 0 3=true) (h2:inB a 0 3=true) (h3:inB b 0 3=true) (h4:inB procs 1 4=true) (h5:1<=procs) (h6:procs<=4):
  Calls Tryz.prog 80 #[insV 2 r a b n,.int .i64 places,.int .i64 procs] w fun e w'=>e=.returned (.bool (n == 0))/\Below w.heap.size w w':=by
 go_enter Tryz.func80,Tryz.ntmps80
 go_wp2_with (first|(go_at_call 37;refine (l1In_any _ _ _ _).mono ?_;rintro e w' ⟨rfl,rfl⟩)|(go_at_call 82;refine (l1Num_any _ _).mono ?_;rintro e w' ⟨rfl,rfl⟩))
 all_goals
  go_ret
  refine ⟨ret_bool ?_,by go_grown⟩
  first | rfl | (simp [*];done)
theorem specInsOk_3 (r a b n places procs:Int) (w:World) (h1:inB r 0 3=true) (h2:inB a 0 3=true) (h3:inB b 0 3=true) (h4:inB procs 1 4=true) (h5:1<=procs) (h6:procs<=4):
  Calls Tryz.prog 80 #[insV 3 r a b n,.int .i64 places,.int .i64 procs] w fun e w'=>e=.returned (.bool (n == 0))/\Below w.heap.size w w':=by
 go_enter Tryz.func80,Tryz.ntmps80
 go_wp2_with (first|(go_at_call 37;refine (l1In_any _ _ _ _).mono ?_;rintro e w' ⟨rfl,rfl⟩)|(go_at_call 82;refine (l1Num_any _ _).mono ?_;rintro e w' ⟨rfl,rfl⟩))
 all_goals
  go_ret
  refine ⟨ret_bool ?_,by go_grown⟩
  first | rfl | (simp [*];done)
theorem specInsOk_4 (r a b n places procs:Int) (w:World) (h1:inB r 0 3=true) (h2:inB a 0 3=true) (h3:inB b 0 3=true) (h4:inB procs 1 4=true) (h5:1<=procs) (h6:procs<=4):
  Calls Tryz.prog 80 #[insV 4 r a b n,.int .i64 places,.int .i64 procs] w fun e w'=>e=.returned (.bool (n == 0))/\Below w.heap.size w w':=by
 go_enter Tryz.func80,Tryz.ntmps80
 go_wp2_with (first|(go_at_call 37;refine (l1In_any _ _ _ _).mono ?_;rintro e w' ⟨rfl,rfl⟩)|(go_at_call 82;refine (l1Num_any _ _).mono ?_;rintro e w' ⟨rfl,rfl⟩))
 all_goals
  go_ret
  refine ⟨ret_bool ?_,by go_grown⟩
  first | rfl | (simp [*];done)
theorem specInsOk_5 (r a b n places procs:Int) (w:World) (h1:inB r 0 3=true) (h2:inB a 0 3=true) (h3:inB b 0 3=true) (h4:inB procs 1 4=true) (h5:1<=procs) (h6:procs<=4):
  Calls Tryz.prog 80 #[insV 5 r a b n,.int .i64 places,.int .i64 procs] w fun e w'=>e=.returned (.bool (n == 0))/\Below w.heap.size w w':=by
 go_enter Tryz.func80,Tryz.ntmps80
 go_wp2_with (first|(go_at_call 37;refine (l1In_any _ _ _ _).mono ?_;rintro e w' ⟨rfl,rfl⟩)|(go_at_call 82;refine (l1Num_any _ _).mono ?_;rintro e w' ⟨rfl,rfl⟩))
 all_goals
  go_ret
  refine ⟨ret_bool ?_,by go_grown⟩
  first | rfl | (simp [*];done)
theorem specInsOk_6 (r a b n places procs:Int) (w:World) (h1:inB r 0 3=true) (h2:inB a 0 3=true) (h3:inB b 0 3=true) (h4:inB procs 1 4=true) (h5:1<=procs) (h6:procs<=4):
  Calls Tryz.prog 80 #[insV 6 r a b n,.int .i64 places,.int .i64 procs] w fun e w'=>e=.returned (.bool (inB n 0 (procs - 1) && r == 0 && b == 0))/\Below w.heap.size w w':=by
 go_enter Tryz.func80,Tryz.ntmps80
 go_wp2_with (first|(go_at_call 37;refine (l1In_any _ _ _ _).mono ?_;rintro e w' ⟨rfl,rfl⟩)|(go_at_call 82;refine (l1Num_any _ _).mono ?_;rintro e w' ⟨rfl,rfl⟩))
 all_goals
  go_ret
  refine ⟨ret_bool ?_,by go_grown⟩
  first | rfl | (simp [*];done)
theorem specInsOk_7 (r a b n places procs:Int) (w:World) (h1:inB r 0 3=true) (h2:inB a 0 3=true) (h3:inB b 0 3=true) (h4:inB procs 1 4=true) (h5:1<=procs) (h6:procs<=4):
  Calls Tryz.prog 80 #[insV 7 r a b n,.int .i64 places,.int .i64 procs] w fun e w'=>e=.returned (.bool ((inB n 0 (procs - 1) || n == 9) && a == 0 && b == 0))/\Below w.heap.size w w':=by
 go_enter Tryz.func80,Tryz.ntmps80
 go_wp2_with (first|(go_at_call 37;refine (l1In_any _ _ _ _).mono ?_;rintro e w' ⟨rfl,rfl⟩)|(go_at_call 82;refine (l1Num_any _ _).mono ?_;rintro e w' ⟨rfl,rfl⟩))
 all_goals
  go_ret
  refine ⟨ret_bool ?_,by go_grown⟩
  first | rfl | (simp [*];done)
theorem specInsOk_8 (r a b n places procs:Int) (w:World) (h1:inB r 0 3=true) (h2:inB a 0 3=true) (h3:inB b 0 3=true) (h4:inB procs 1 4=true) (h5:1<=procs) (h6:procs<=4):
  Calls Tryz.prog 80 #[insV 8 r a b n,.int .i64 places,.int .i64 procs] w fun e w'=>e=.returned (.bool (r == 0 && b == 0 && n == 0))/\Below w.heap.size w w':=by
 go_enter Tryz.func80,Tryz.ntmps80
 go_wp2_with (first|(go_at_call 37;refine (l1In_any _ _ _ _).mono ?_;rintro e w' ⟨rfl,rfl⟩)|(go_at_call 82;refine (l1Num_any _ _).mono ?_;rintro e w' ⟨rfl,rfl⟩))
 all_goals
  go_ret
  refine ⟨ret_bool ?_,by go_grown⟩
  first | rfl | (simp [*];done)
theorem specInsOk_9 (r a b n places procs:Int) (w:World) (h1:inB r 0 3=true) (h2:inB a 0 3=true) (h3:inB b 0 3=true) (h4:inB procs 1 4=true) (h5:1<=procs) (h6:procs<=4):
  Calls Tryz.prog 80 #[insV 9 r a b n,.int .i64 places,.int .i64 procs] w fun e w'=>e=.returned (.bool (belB n places && r == 0 && a == 0 && b == 0))/\Below w.heap.size w w':=by
 go_enter Tryz.func80,Tryz.ntmps80
 go_wp2_with (first|(go_at_call 37;refine (l1In_any _ _ _ _).mono ?_;rintro e w' ⟨rfl,rfl⟩)|(go_at_call 82;refine (l1Num_any _ _).mono ?_;rintro e w' ⟨rfl,rfl⟩))
 all_goals
  go_ret
  refine ⟨ret_bool ?_,by go_grown⟩
  first | rfl | (simp [*,belB];done)|(simp [*,belB];omega)
theorem specInsOk_10 (r a b n places procs:Int) (w:World) (h1:inB r 0 3=true) (h2:inB a 0 3=true) (h3:inB b 0 3=true) (h4:inB procs 1 4=true) (h5:1<=procs) (h6:procs<=4):
  Calls Tryz.prog 80 #[insV 10 r a b n,.int .i64 places,.int .i64 procs] w fun e w'=>e=.returned (.bool (belB n places && r == 0 && b == 0))/\Below w.heap.size w w':=by
 go_enter Tryz.func80,Tryz.ntmps80
 go_wp2_with (first|(go_at_call 37;refine (l1In_any _ _ _ _).mono ?_;rintro e w' ⟨rfl,rfl⟩)|(go_at_call 82;refine (l1Num_any _ _).mono ?_;rintro e w' ⟨rfl,rfl⟩))
 all_goals
  go_ret
  refine ⟨ret_bool ?_,by go_grown⟩
  first | rfl | (simp [*,belB];done)|(simp [*,belB];omega)
theorem specInsOk_11 (r a b n places procs:Int) (w:World) (h1:inB r 0 3=true) (h2:inB a 0 3=true) (h3:inB b 0 3=true) (h4:inB procs 1 4=true) (h5:1<=procs) (h6:procs<=4):
  Calls Tryz.prog 80 #[insV 11 r a b n,.int .i64 places,.int .i64 procs] w fun e w'=>e=.returned (.bool (r == 0 && a == 0 && b == 0 && n == 0))/\Below w.heap.size w w':=by
 go_enter Tryz.func80,Tryz.ntmps80
 go_wp2_with (first|(go_at_call 37;refine (l1In_any _ _ _ _).mono ?_;rintro e w' ⟨rfl,rfl⟩)|(go_at_call 82;refine (l1Num_any _ _).mono ?_;rintro e w' ⟨rfl,rfl⟩))
 all_goals
  go_ret
  refine ⟨ret_bool ?_,by go_grown⟩
  first | rfl | (simp [*];done)
theorem specInsOk_none (op r a b n places procs:Int) (w:World) (h1:inB r 0 3=true) (h2:inB a 0 3=true) (h3:inB b 0 3=true) (h4:inB procs 1 4=true) (h5:1<=procs) (h6:procs<=4) (h:op<1\/11<op):
  Calls Tryz.prog 80 #[insV op r a b n,.int .i64 places,.int .i64 procs] w fun e w'=>e=.returned (.bool false)/\Below w.heap.size w w':=by
 have g1:(op == 1)=false:=by simp;omega
 have g2:(op == 2)=false:=by simp;omega
 have g3:(op == 3)=false:=by simp;omega
 have g4:(op == 4)=false:=by simp;omega
 have g5:(op == 5)=false:=by simp;omega
 have g6:(op == 6)=false:=by simp;omega
 have g7:(op == 7)=false:=by simp;omega
 have g8:(op == 8)=false:=by simp;omega
 have g9:(op == 9)=false:=by simp;omega
 have g10:(op == 10)=false:=by simp;omega
 have g11:(op == 11)=false:=by simp;omega
 clear h
 go_enter Tryz.func80,Tryz.ntmps80
 go_wp2_with (first|(go_at_call 37;refine (l1In_any _ _ _ _).mono ?_;rintro e w' ⟨rfl,rfl⟩)|(go_at_call 82;refine (l1Num_any _ _).mono ?_;rintro e w' ⟨rfl,rfl⟩))
 all_goals
  go_ret
  exact ⟨rfl,by go_grown⟩
theorem specInsOk_out (op r a b n places procs:Int) (w:World) (h:(inB r 0 3 && inB a 0 3 && inB b 0 3 && inB procs 1 4)=false):
  Calls Tryz.prog 80 #[insV op r a b n,.int .i64 places,.int .i64 procs] w fun e w'=>e=.returned (.bool false)/\Below w.heap.size w w':=by
 rcases zK (inB r 0 3) with h1 | h1
 ·rcases zK (inB a 0 3) with h2 | h2
  ·rcases zK (inB b 0 3) with h3 | h3
   ·have h4:inB procs 1 4=false:=by simpa [h1,h2,h3] using h
    clear h
    go_enter Tryz.func80,Tryz.ntmps80
    go_wp2_with (first|(go_at_call 37;refine (l1In_any _ _ _ _).mono ?_;rintro e w' ⟨rfl,rfl⟩)|(go_at_call 82;refine (l1Num_any _ _).mono ?_;rintro e w' ⟨rfl,rfl⟩))
    go_ret
    exact ⟨rfl,by go_grown⟩
   ·clear h
    go_enter Tryz.func80,Tryz.ntmps80
    go_wp2_with (first|(go_at_call 37;refine (l1In_any _ _ _ _).mono ?_;rintro e w' ⟨rfl,rfl⟩)|(go_at_call 82;refine (l1Num_any _ _).mono ?_;rintro e w' ⟨rfl,rfl⟩))
    go_ret
    exact ⟨rfl,by go_grown⟩
  ·clear h
   go_enter Tryz.func80,Tryz.ntmps80
   go_wp2_with (first|(go_at_call 37;refine (l1In_any _ _ _ _).mono ?_;rintro e w' ⟨rfl,rfl⟩)|(go_at_call 82;refine (l1Num_any _ _).mono ?_;rintro e w' ⟨rfl,rfl⟩))
   go_ret
   exact ⟨rfl,by go_grown⟩
 ·clear h
  go_enter Tryz.func80,Tryz.ntmps80
  go_wp2_with (first|(go_at_call 37;refine (l1In_any _ _ _ _).mono ?_;rintro e w' ⟨rfl,rfl⟩)|(go_at_call 82;refine (l1Num_any _ _).mono ?_;rintro e w' ⟨rfl,rfl⟩))
  go_ret
  exact ⟨rfl,by go_grown⟩
