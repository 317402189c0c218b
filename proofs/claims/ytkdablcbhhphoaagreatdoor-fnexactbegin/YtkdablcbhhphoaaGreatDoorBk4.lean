import Derived.Test.YtkdablcbhhphoaaGreatDoorBk1
import Derived.Deep.RegionWith
namespace Go.Proofs.YtkdablcbhhphoaaGreatDoor
set_option maxRecDepth 100000
set_option maxHeartbeats 1000000
open Go.RowKit
theorem qge (a n places procs:Int) (w:World) (h5:1<=procs) (h6:procs<=4):
  Calls Tryz.prog 225 #[insV 6 0 a 0 n,.int .i64 places,.int .i64 procs] w fun e w'=>e=.returned (.bool (belB a 4 && belB n procs))/\Below w.heap.size w w':=by
 have he:∀ wx,(binOp .eql 184 (insV 6 0 a 0 n) (insV 6 0 a 0 n)).run Tryz.prog wx=.ok (.bool true) wx:=fun wx=>by rw [qby];simp [qax]
 go_enter Tryz.func225,Tryz.ntmps225
 go_wp2_with (go_at_call 165;refine (qdy _ _ _ _ _).mono ?_;rintro e w1 ⟨rfl,hb1⟩)
 have hz1:w.heap.size<w1.heap.size:=by have:=hb1.size;simp at this;omega
 have c0:w1.cell? ⟨w.heap.size,0,none⟩=some (.int .i64 6):=by rw [hb1.cell (by simp)];simp
 have c1:w1.cell? ⟨w.heap.size,1,none⟩=some (.int .i64 0):=by rw [hb1.cell (by simp)];simp
 have c2:w1.cell? ⟨w.heap.size,2,none⟩=some (.int .i64 a):=by rw [hb1.cell (by simp)];simp
 have c3:w1.cell? ⟨w.heap.size,3,none⟩=some (.int .i64 0):=by rw [hb1.cell (by simp)];simp
 have c4:w1.cell? ⟨w.heap.size,4,none⟩=some (.int .i64 n):=by rw [hb1.cell (by simp)];simp
 first|(go_region_with (first|(go_at_call 273;refine (qrl _ _ _).mono ?_;rintro e w2 ⟨rfl,hb2⟩;have d0:=hb2.cell (p:=⟨w.heap.size,0,none⟩) (by simpa using hz1);have d1:=hb2.cell (p:=⟨w.heap.size,1,none⟩) (by simpa using hz1);have d2:=hb2.cell (p:=⟨w.heap.size,2,none⟩) (by simpa using hz1);have d3:=hb2.cell (p:=⟨w.heap.size,3,none⟩) (by simpa using hz1);have d4:=hb2.cell (p:=⟨w.heap.size,4,none⟩) (by simpa using hz1))|(go_at_call 240;refine (qul _ _ _ _ _).mono ?_;rintro e w3 ⟨rfl,hb3⟩))) | fail
 all_goals
  go_wp2;go_ret;exact ⟨rfl,qa5 hb1 hb2 hb3⟩
theorem qdc (r a b n places procs:Int) (w:World) (h5:1<=procs) (h6:procs<=4) (hne:qax 6 0 a 0 n 6 r a b n=false):
  Calls Tryz.prog 225 #[insV 6 r a b n,.int .i64 places,.int .i64 procs] w fun e w'=>e=.returned (.bool (false))/\Below w.heap.size w w':=by
 have he:∀ wx,(binOp .eql 184 (insV 6 0 a 0 n) (insV 6 r a b n)).run Tryz.prog wx=.ok (.bool false) wx:=fun wx=>by rw [qby,hne]
 clear hne
 go_enter Tryz.func225,Tryz.ntmps225
 go_wp2_with (go_at_call 165;refine (qdy _ _ _ _ _).mono ?_;rintro e w1 ⟨rfl,hb1⟩)
 have hz1:w.heap.size<w1.heap.size:=by have:=hb1.size;simp at this;omega
 have c0:w1.cell? ⟨w.heap.size,0,none⟩=some (.int .i64 6):=by rw [hb1.cell (by simp)];simp
 have c1:w1.cell? ⟨w.heap.size,1,none⟩=some (.int .i64 r):=by rw [hb1.cell (by simp)];simp
 have c2:w1.cell? ⟨w.heap.size,2,none⟩=some (.int .i64 a):=by rw [hb1.cell (by simp)];simp
 have c3:w1.cell? ⟨w.heap.size,3,none⟩=some (.int .i64 b):=by rw [hb1.cell (by simp)];simp
 have c4:w1.cell? ⟨w.heap.size,4,none⟩=some (.int .i64 n):=by rw [hb1.cell (by simp)];simp
 first|(go_region_with (go_at_call 273;refine (qrl _ _ _).mono ?_;rintro e w2 ⟨rfl,hb2⟩;have d0:=hb2.cell (p:=⟨w.heap.size,0,none⟩) (by simpa using hz1);have d1:=hb2.cell (p:=⟨w.heap.size,1,none⟩) (by simpa using hz1);have d2:=hb2.cell (p:=⟨w.heap.size,2,none⟩) (by simpa using hz1);have d3:=hb2.cell (p:=⟨w.heap.size,3,none⟩) (by simpa using hz1);have d4:=hb2.cell (p:=⟨w.heap.size,4,none⟩) (by simpa using hz1))) | fail
 all_goals
  go_wp2;go_ret;exact ⟨rfl,qa0 hb1 hb2⟩
theorem qgf (r n places procs:Int) (w:World) (h5:1<=procs) (h6:procs<=4):
  Calls Tryz.prog 225 #[insV 7 r 0 0 n,.int .i64 places,.int .i64 procs] w fun e w'=>e=.returned (.bool (belB r 4 && ((n == 9) || belB n procs)))/\Below w.heap.size w w':=by
 have he:∀ wx,(binOp .eql 184 (insV 7 r 0 0 n) (insV 7 r 0 0 n)).run Tryz.prog wx=.ok (.bool true) wx:=fun wx=>by rw [qby];simp [qax]
 go_enter Tryz.func225,Tryz.ntmps225
 go_wp2_with (go_at_call 165;refine (qdz _ _ _ _ _).mono ?_;rintro e w1 ⟨rfl,hb1⟩)
 have hz1:w.heap.size<w1.heap.size:=by have:=hb1.size;simp at this;omega
 have c0:w1.cell? ⟨w.heap.size,0,none⟩=some (.int .i64 7):=by rw [hb1.cell (by simp)];simp
 have c1:w1.cell? ⟨w.heap.size,1,none⟩=some (.int .i64 r):=by rw [hb1.cell (by simp)];simp
 have c2:w1.cell? ⟨w.heap.size,2,none⟩=some (.int .i64 0):=by rw [hb1.cell (by simp)];simp
 have c3:w1.cell? ⟨w.heap.size,3,none⟩=some (.int .i64 0):=by rw [hb1.cell (by simp)];simp
 have c4:w1.cell? ⟨w.heap.size,4,none⟩=some (.int .i64 n):=by rw [hb1.cell (by simp)];simp
 first|(go_region_with (first|(go_at_call 274;refine (qrm _ _ _).mono ?_;rintro e w2 ⟨rfl,hb2⟩;have d0:=hb2.cell (p:=⟨w.heap.size,0,none⟩) (by simpa using hz1);have d1:=hb2.cell (p:=⟨w.heap.size,1,none⟩) (by simpa using hz1);have d2:=hb2.cell (p:=⟨w.heap.size,2,none⟩) (by simpa using hz1);have d3:=hb2.cell (p:=⟨w.heap.size,3,none⟩) (by simpa using hz1);have d4:=hb2.cell (p:=⟨w.heap.size,4,none⟩) (by simpa using hz1))|(go_at_call 240;refine (qum _ _ _ _ _).mono ?_;rintro e w3 ⟨rfl,hb3⟩))) | fail
 all_goals
  go_wp2;go_ret;exact ⟨rfl,qa5 hb1 hb2 hb3⟩
theorem qdd (r a b n places procs:Int) (w:World) (h5:1<=procs) (h6:procs<=4) (hne:qax 7 r 0 0 n 7 r a b n=false):
  Calls Tryz.prog 225 #[insV 7 r a b n,.int .i64 places,.int .i64 procs] w fun e w'=>e=.returned (.bool (false))/\Below w.heap.size w w':=by
 have he:∀ wx,(binOp .eql 184 (insV 7 r 0 0 n) (insV 7 r a b n)).run Tryz.prog wx=.ok (.bool false) wx:=fun wx=>by rw [qby,hne]
 clear hne
 go_enter Tryz.func225,Tryz.ntmps225
 go_wp2_with (go_at_call 165;refine (qdz _ _ _ _ _).mono ?_;rintro e w1 ⟨rfl,hb1⟩)
 have hz1:w.heap.size<w1.heap.size:=by have:=hb1.size;simp at this;omega
 have c0:w1.cell? ⟨w.heap.size,0,none⟩=some (.int .i64 7):=by rw [hb1.cell (by simp)];simp
 have c1:w1.cell? ⟨w.heap.size,1,none⟩=some (.int .i64 r):=by rw [hb1.cell (by simp)];simp
 have c2:w1.cell? ⟨w.heap.size,2,none⟩=some (.int .i64 a):=by rw [hb1.cell (by simp)];simp
 have c3:w1.cell? ⟨w.heap.size,3,none⟩=some (.int .i64 b):=by rw [hb1.cell (by simp)];simp
 have c4:w1.cell? ⟨w.heap.size,4,none⟩=some (.int .i64 n):=by rw [hb1.cell (by simp)];simp
 first|(go_region_with (go_at_call 274;refine (qrm _ _ _).mono ?_;rintro e w2 ⟨rfl,hb2⟩;have d0:=hb2.cell (p:=⟨w.heap.size,0,none⟩) (by simpa using hz1);have d1:=hb2.cell (p:=⟨w.heap.size,1,none⟩) (by simpa using hz1);have d2:=hb2.cell (p:=⟨w.heap.size,2,none⟩) (by simpa using hz1);have d3:=hb2.cell (p:=⟨w.heap.size,3,none⟩) (by simpa using hz1);have d4:=hb2.cell (p:=⟨w.heap.size,4,none⟩) (by simpa using hz1))) | fail
 all_goals
  go_wp2;go_ret;exact ⟨rfl,qa0 hb1 hb2⟩
theorem qfl (a places procs:Int) (w:World) (h5:1<=procs) (h6:procs<=4):
  Calls Tryz.prog 225 #[insV 8 0 a 0 0,.int .i64 places,.int .i64 procs] w fun e w'=>e=.returned (.bool (belB a 4))/\Below w.heap.size w w':=by
 have he:∀ wx,(binOp .eql 184 (insV 8 0 a 0 0) (insV 8 0 a 0 0)).run Tryz.prog wx=.ok (.bool true) wx:=fun wx=>by rw [qby];simp [qax]
 go_enter Tryz.func225,Tryz.ntmps225
 go_wp2_with (go_at_call 165;refine (qdm _ _ _ _ _).mono ?_;rintro e w1 ⟨rfl,hb1⟩)
 have hz1:w.heap.size<w1.heap.size:=by have:=hb1.size;simp at this;omega
 have c0:w1.cell? ⟨w.heap.size,0,none⟩=some (.int .i64 8):=by rw [hb1.cell (by simp)];simp
 have c1:w1.cell? ⟨w.heap.size,1,none⟩=some (.int .i64 0):=by rw [hb1.cell (by simp)];simp
 have c2:w1.cell? ⟨w.heap.size,2,none⟩=some (.int .i64 a):=by rw [hb1.cell (by simp)];simp
 have c3:w1.cell? ⟨w.heap.size,3,none⟩=some (.int .i64 0):=by rw [hb1.cell (by simp)];simp
 have c4:w1.cell? ⟨w.heap.size,4,none⟩=some (.int .i64 0):=by rw [hb1.cell (by simp)];simp
 first|(go_region_with (first|(go_at_call 275;refine (qnk _ _).mono ?_;rintro e w2 ⟨rfl,hb2⟩;have d0:=hb2.cell (p:=⟨w.heap.size,0,none⟩) (by simpa using hz1);have d1:=hb2.cell (p:=⟨w.heap.size,1,none⟩) (by simpa using hz1);have d2:=hb2.cell (p:=⟨w.heap.size,2,none⟩) (by simpa using hz1);have d3:=hb2.cell (p:=⟨w.heap.size,3,none⟩) (by simpa using hz1);have d4:=hb2.cell (p:=⟨w.heap.size,4,none⟩) (by simpa using hz1))|(go_at_call 240;refine (qsv _ _ _ _).mono ?_;rintro e w3 ⟨rfl,hb3⟩))) | fail
 all_goals
  go_wp2;go_ret;exact ⟨rfl,qa5 hb1 hb2 hb3⟩
theorem qca (r a b n places procs:Int) (w:World) (h5:1<=procs) (h6:procs<=4) (hne:qax 8 0 a 0 0 8 r a b n=false):
  Calls Tryz.prog 225 #[insV 8 r a b n,.int .i64 places,.int .i64 procs] w fun e w'=>e=.returned (.bool (false))/\Below w.heap.size w w':=by
 have he:∀ wx,(binOp .eql 184 (insV 8 0 a 0 0) (insV 8 r a b n)).run Tryz.prog wx=.ok (.bool false) wx:=fun wx=>by rw [qby,hne]
 clear hne
 go_enter Tryz.func225,Tryz.ntmps225
 go_wp2_with (go_at_call 165;refine (qdm _ _ _ _ _).mono ?_;rintro e w1 ⟨rfl,hb1⟩)
 have hz1:w.heap.size<w1.heap.size:=by have:=hb1.size;simp at this;omega
 have c0:w1.cell? ⟨w.heap.size,0,none⟩=some (.int .i64 8):=by rw [hb1.cell (by simp)];simp
 have c1:w1.cell? ⟨w.heap.size,1,none⟩=some (.int .i64 r):=by rw [hb1.cell (by simp)];simp
 have c2:w1.cell? ⟨w.heap.size,2,none⟩=some (.int .i64 a):=by rw [hb1.cell (by simp)];simp
 have c3:w1.cell? ⟨w.heap.size,3,none⟩=some (.int .i64 b):=by rw [hb1.cell (by simp)];simp
 have c4:w1.cell? ⟨w.heap.size,4,none⟩=some (.int .i64 n):=by rw [hb1.cell (by simp)];simp
 first|(go_region_with (go_at_call 275;refine (qnk _ _).mono ?_;rintro e w2 ⟨rfl,hb2⟩;have d0:=hb2.cell (p:=⟨w.heap.size,0,none⟩) (by simpa using hz1);have d1:=hb2.cell (p:=⟨w.heap.size,1,none⟩) (by simpa using hz1);have d2:=hb2.cell (p:=⟨w.heap.size,2,none⟩) (by simpa using hz1);have d3:=hb2.cell (p:=⟨w.heap.size,3,none⟩) (by simpa using hz1);have d4:=hb2.cell (p:=⟨w.heap.size,4,none⟩) (by simpa using hz1))) | fail
 all_goals
  go_wp2;go_ret;exact ⟨rfl,qa0 hb1 hb2⟩
