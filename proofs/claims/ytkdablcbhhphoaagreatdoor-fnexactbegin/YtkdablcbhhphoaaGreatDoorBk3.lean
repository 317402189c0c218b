import Derived.Test.YtkdablcbhhphoaaGreatDoorBk1
import Derived.Deep.RegionWith
namespace Go.Proofs.YtkdablcbhhphoaaGreatDoor
set_option maxRecDepth 100000
set_option maxHeartbeats 1000000
open Go.RowKit
theorem qhl (r n places procs:Int) (w:World) (h5:1<=procs) (h6:procs<=4):
  Calls Tryz.prog 225 #[insV 1 r 0 0 n,.int .i64 places,.int .i64 procs] w fun e w'=>e=.returned (.bool (belB r 4 && inB n (-1000000000) 1000000000))/\Below w.heap.size w w':=by
 have he:∀ wx,(binOp .eql 184 (insV 1 r 0 0 n) (insV 1 r 0 0 n)).run Tryz.prog wx=.ok (.bool true) wx:=fun wx=>by rw [qby];simp [qax]
 go_enter Tryz.func225,Tryz.ntmps225
 go_wp2_with (go_at_call 165;refine (qe5 _ _ _ _ _).mono ?_;rintro e w1 ⟨rfl,hb1⟩)
 have hz1:w.heap.size<w1.heap.size:=by have:=hb1.size;simp at this;omega
 have c0:w1.cell? ⟨w.heap.size,0,none⟩=some (.int .i64 1):=by rw [hb1.cell (by simp)];simp
 have c1:w1.cell? ⟨w.heap.size,1,none⟩=some (.int .i64 r):=by rw [hb1.cell (by simp)];simp
 have c2:w1.cell? ⟨w.heap.size,2,none⟩=some (.int .i64 0):=by rw [hb1.cell (by simp)];simp
 have c3:w1.cell? ⟨w.heap.size,3,none⟩=some (.int .i64 0):=by rw [hb1.cell (by simp)];simp
 have c4:w1.cell? ⟨w.heap.size,4,none⟩=some (.int .i64 n):=by rw [hb1.cell (by simp)];simp
 first|(go_region_with (first|(go_at_call 276;refine (quv _ _ _).mono ?_;rintro e w2 ⟨rfl,hb2⟩;have d0:=hb2.cell (p:=⟨w.heap.size,0,none⟩) (by simpa using hz1);have d1:=hb2.cell (p:=⟨w.heap.size,1,none⟩) (by simpa using hz1);have d2:=hb2.cell (p:=⟨w.heap.size,2,none⟩) (by simpa using hz1);have d3:=hb2.cell (p:=⟨w.heap.size,3,none⟩) (by simpa using hz1);have d4:=hb2.cell (p:=⟨w.heap.size,4,none⟩) (by simpa using hz1))|(go_at_call 240;refine (qwe _ _ _ _ _).mono ?_;rintro e w3 ⟨rfl,hb3⟩))) | fail
 all_goals
  go_wp2;go_ret;exact ⟨rfl,qa5 hb1 hb2 hb3⟩
theorem qdn (r a b n places procs:Int) (w:World) (h5:1<=procs) (h6:procs<=4) (hne:qax 1 r 0 0 n 1 r a b n=false):
  Calls Tryz.prog 225 #[insV 1 r a b n,.int .i64 places,.int .i64 procs] w fun e w'=>e=.returned (.bool (false))/\Below w.heap.size w w':=by
 have he:∀ wx,(binOp .eql 184 (insV 1 r 0 0 n) (insV 1 r a b n)).run Tryz.prog wx=.ok (.bool false) wx:=fun wx=>by rw [qby,hne]
 clear hne
 go_enter Tryz.func225,Tryz.ntmps225
 go_wp2_with (go_at_call 165;refine (qe5 _ _ _ _ _).mono ?_;rintro e w1 ⟨rfl,hb1⟩)
 have hz1:w.heap.size<w1.heap.size:=by have:=hb1.size;simp at this;omega
 have c0:w1.cell? ⟨w.heap.size,0,none⟩=some (.int .i64 1):=by rw [hb1.cell (by simp)];simp
 have c1:w1.cell? ⟨w.heap.size,1,none⟩=some (.int .i64 r):=by rw [hb1.cell (by simp)];simp
 have c2:w1.cell? ⟨w.heap.size,2,none⟩=some (.int .i64 a):=by rw [hb1.cell (by simp)];simp
 have c3:w1.cell? ⟨w.heap.size,3,none⟩=some (.int .i64 b):=by rw [hb1.cell (by simp)];simp
 have c4:w1.cell? ⟨w.heap.size,4,none⟩=some (.int .i64 n):=by rw [hb1.cell (by simp)];simp
 first|(go_region_with (go_at_call 276;refine (quv _ _ _).mono ?_;rintro e w2 ⟨rfl,hb2⟩;have d0:=hb2.cell (p:=⟨w.heap.size,0,none⟩) (by simpa using hz1);have d1:=hb2.cell (p:=⟨w.heap.size,1,none⟩) (by simpa using hz1);have d2:=hb2.cell (p:=⟨w.heap.size,2,none⟩) (by simpa using hz1);have d3:=hb2.cell (p:=⟨w.heap.size,3,none⟩) (by simpa using hz1);have d4:=hb2.cell (p:=⟨w.heap.size,4,none⟩) (by simpa using hz1))) | fail
 all_goals
  go_wp2;go_ret;exact ⟨rfl,qa0 hb1 hb2⟩
theorem qbu (op r a b places procs:Int) (w:World) (h5:1<=procs) (h6:procs<=4) (q1:2<=op) (q2:op<=5):
  Calls Tryz.prog 225 #[insV op r a b 0,.int .i64 places,.int .i64 procs] w fun e w'=>e=.returned (.bool (belB r 4 && belB a 4 && belB b 4))/\Below w.heap.size w w':=by
 have he:∀ wx,(binOp .eql 184 (insV op r a b 0) (insV op r a b 0)).run Tryz.prog wx=.ok (.bool true) wx:=fun wx=>by rw [qby];simp [qax]
 go_enter Tryz.func225,Tryz.ntmps225
 go_wp2_with (go_at_call 165;refine (qg8 _ _ _ _ _ _ q1 q2).mono ?_;rintro e w1 ⟨rfl,hb1⟩)
 have hz1:w.heap.size<w1.heap.size:=by have:=hb1.size;simp at this;omega
 have c0:w1.cell? ⟨w.heap.size,0,none⟩=some (.int .i64 op):=by rw [hb1.cell (by simp)];simp
 have c1:w1.cell? ⟨w.heap.size,1,none⟩=some (.int .i64 r):=by rw [hb1.cell (by simp)];simp
 have c2:w1.cell? ⟨w.heap.size,2,none⟩=some (.int .i64 a):=by rw [hb1.cell (by simp)];simp
 have c3:w1.cell? ⟨w.heap.size,3,none⟩=some (.int .i64 b):=by rw [hb1.cell (by simp)];simp
 have c4:w1.cell? ⟨w.heap.size,4,none⟩=some (.int .i64 0):=by rw [hb1.cell (by simp)];simp
 first|(go_region_with (first|(go_at_call 277;refine (qrj _ _ _ _ _).mono ?_;rintro e w2 ⟨rfl,hb2⟩;have d0:=hb2.cell (p:=⟨w.heap.size,0,none⟩) (by simpa using hz1);have d1:=hb2.cell (p:=⟨w.heap.size,1,none⟩) (by simpa using hz1);have d2:=hb2.cell (p:=⟨w.heap.size,2,none⟩) (by simpa using hz1);have d3:=hb2.cell (p:=⟨w.heap.size,3,none⟩) (by simpa using hz1);have d4:=hb2.cell (p:=⟨w.heap.size,4,none⟩) (by simpa using hz1))|(go_at_call 240;refine (quj _ _ _ _ _ _ _).mono ?_;rintro e w3 ⟨rfl,hb3⟩))) | fail
 all_goals
  go_wp2;go_ret;exact ⟨rfl,qa5 hb1 hb2 hb3⟩
theorem qbv (op r a b n places procs:Int) (w:World) (h5:1<=procs) (h6:procs<=4) (q1:2<=op) (q2:op<=5) (hne:qax op r a b 0 op r a b n=false):
  Calls Tryz.prog 225 #[insV op r a b n,.int .i64 places,.int .i64 procs] w fun e w'=>e=.returned (.bool (false))/\Below w.heap.size w w':=by
 have he:∀ wx,(binOp .eql 184 (insV op r a b 0) (insV op r a b n)).run Tryz.prog wx=.ok (.bool false) wx:=fun wx=>by rw [qby,hne]
 clear hne
 go_enter Tryz.func225,Tryz.ntmps225
 go_wp2_with (go_at_call 165;refine (qg8 _ _ _ _ _ _ q1 q2).mono ?_;rintro e w1 ⟨rfl,hb1⟩)
 have hz1:w.heap.size<w1.heap.size:=by have:=hb1.size;simp at this;omega
 have c0:w1.cell? ⟨w.heap.size,0,none⟩=some (.int .i64 op):=by rw [hb1.cell (by simp)];simp
 have c1:w1.cell? ⟨w.heap.size,1,none⟩=some (.int .i64 r):=by rw [hb1.cell (by simp)];simp
 have c2:w1.cell? ⟨w.heap.size,2,none⟩=some (.int .i64 a):=by rw [hb1.cell (by simp)];simp
 have c3:w1.cell? ⟨w.heap.size,3,none⟩=some (.int .i64 b):=by rw [hb1.cell (by simp)];simp
 have c4:w1.cell? ⟨w.heap.size,4,none⟩=some (.int .i64 n):=by rw [hb1.cell (by simp)];simp
 first|(go_region_with (go_at_call 277;refine (qrj _ _ _ _ _).mono ?_;rintro e w2 ⟨rfl,hb2⟩;have d0:=hb2.cell (p:=⟨w.heap.size,0,none⟩) (by simpa using hz1);have d1:=hb2.cell (p:=⟨w.heap.size,1,none⟩) (by simpa using hz1);have d2:=hb2.cell (p:=⟨w.heap.size,2,none⟩) (by simpa using hz1);have d3:=hb2.cell (p:=⟨w.heap.size,3,none⟩) (by simpa using hz1);have d4:=hb2.cell (p:=⟨w.heap.size,4,none⟩) (by simpa using hz1))) | fail
 all_goals
  go_wp2;go_ret;exact ⟨rfl,qa0 hb1 hb2⟩
theorem qhk (places procs:Int) (w:World) (h5:1<=procs) (h6:procs<=4):
  Calls Tryz.prog 225 #[insV 11 0 0 0 0,.int .i64 places,.int .i64 procs] w fun e w'=>e=.returned (.bool (true))/\Below w.heap.size w w':=by
 have he:∀ wx,(binOp .eql 184 (insV 11 0 0 0 0) (insV 11 0 0 0 0)).run Tryz.prog wx=.ok (.bool true) wx:=fun wx=>by rw [qby];simp [qax]
 go_enter Tryz.func225,Tryz.ntmps225
 go_wp2_with (go_at_call 165;refine (qe4 _ _ _ _ _).mono ?_;rintro e w1 ⟨rfl,hb1⟩)
 have hz1:w.heap.size<w1.heap.size:=by have:=hb1.size;simp at this;omega
 have c0:w1.cell? ⟨w.heap.size,0,none⟩=some (.int .i64 11):=by rw [hb1.cell (by simp)];simp
 have c1:w1.cell? ⟨w.heap.size,1,none⟩=some (.int .i64 0):=by rw [hb1.cell (by simp)];simp
 have c2:w1.cell? ⟨w.heap.size,2,none⟩=some (.int .i64 0):=by rw [hb1.cell (by simp)];simp
 have c3:w1.cell? ⟨w.heap.size,3,none⟩=some (.int .i64 0):=by rw [hb1.cell (by simp)];simp
 have c4:w1.cell? ⟨w.heap.size,4,none⟩=some (.int .i64 0):=by rw [hb1.cell (by simp)];simp
 first|(go_region_with (first|(go_at_call 280;refine (quu _).mono ?_;rintro e w2 ⟨rfl,hb2⟩;have d0:=hb2.cell (p:=⟨w.heap.size,0,none⟩) (by simpa using hz1);have d1:=hb2.cell (p:=⟨w.heap.size,1,none⟩) (by simpa using hz1);have d2:=hb2.cell (p:=⟨w.heap.size,2,none⟩) (by simpa using hz1);have d3:=hb2.cell (p:=⟨w.heap.size,3,none⟩) (by simpa using hz1);have d4:=hb2.cell (p:=⟨w.heap.size,4,none⟩) (by simpa using hz1))|(go_at_call 240;refine (qwd _ _ _).mono ?_;rintro e w3 ⟨rfl,hb3⟩))) | fail
 all_goals
  go_wp2;go_ret;exact ⟨rfl,qa5 hb1 hb2 hb3⟩
theorem qb2 (r a b n places procs:Int) (w:World) (h5:1<=procs) (h6:procs<=4) (hne:qax 11 0 0 0 0 11 r a b n=false):
  Calls Tryz.prog 225 #[insV 11 r a b n,.int .i64 places,.int .i64 procs] w fun e w'=>e=.returned (.bool (false))/\Below w.heap.size w w':=by
 have he:∀ wx,(binOp .eql 184 (insV 11 0 0 0 0) (insV 11 r a b n)).run Tryz.prog wx=.ok (.bool false) wx:=fun wx=>by rw [qby,hne]
 clear hne
 go_enter Tryz.func225,Tryz.ntmps225
 go_wp2_with (go_at_call 165;refine (qe4 _ _ _ _ _).mono ?_;rintro e w1 ⟨rfl,hb1⟩)
 have hz1:w.heap.size<w1.heap.size:=by have:=hb1.size;simp at this;omega
 have c0:w1.cell? ⟨w.heap.size,0,none⟩=some (.int .i64 11):=by rw [hb1.cell (by simp)];simp
 have c1:w1.cell? ⟨w.heap.size,1,none⟩=some (.int .i64 r):=by rw [hb1.cell (by simp)];simp
 have c2:w1.cell? ⟨w.heap.size,2,none⟩=some (.int .i64 a):=by rw [hb1.cell (by simp)];simp
 have c3:w1.cell? ⟨w.heap.size,3,none⟩=some (.int .i64 b):=by rw [hb1.cell (by simp)];simp
 have c4:w1.cell? ⟨w.heap.size,4,none⟩=some (.int .i64 n):=by rw [hb1.cell (by simp)];simp
 first|(go_region_with (go_at_call 280;refine (quu _).mono ?_;rintro e w2 ⟨rfl,hb2⟩;have d0:=hb2.cell (p:=⟨w.heap.size,0,none⟩) (by simpa using hz1);have d1:=hb2.cell (p:=⟨w.heap.size,1,none⟩) (by simpa using hz1);have d2:=hb2.cell (p:=⟨w.heap.size,2,none⟩) (by simpa using hz1);have d3:=hb2.cell (p:=⟨w.heap.size,3,none⟩) (by simpa using hz1);have d4:=hb2.cell (p:=⟨w.heap.size,4,none⟩) (by simpa using hz1))) | fail
 all_goals
  go_wp2;go_ret;exact ⟨rfl,qa0 hb1 hb2⟩
