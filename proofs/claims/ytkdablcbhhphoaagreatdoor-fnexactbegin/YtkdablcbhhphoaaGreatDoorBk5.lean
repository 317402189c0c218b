import Derived.Test.YtkdablcbhhphoaaGreatDoorBk1
import Derived.Deep.RegionWith
namespace Go.Proofs.YtkdablcbhhphoaaGreatDoor
set_option maxRecDepth 100000
set_option maxHeartbeats 1000000
open Go.RowKit
theorem qgd (n places procs:Int) (w:World) (h5:1<=procs) (h6:procs<=4):
  Calls Tryz.prog 225 #[insV 9 0 0 0 n,.int .i64 places,.int .i64 procs] w fun e w'=>e=.returned (.bool (belB n places))/\Below w.heap.size w w':=by
 have he:∀ wx,(binOp .eql 184 (insV 9 0 0 0 n) (insV 9 0 0 0 n)).run Tryz.prog wx=.ok (.bool true) wx:=fun wx=>by rw [qby];simp [qax]
 go_enter Tryz.func225,Tryz.ntmps225
 go_wp2_with (go_at_call 165;refine (qdx _ _ _ _ _).mono ?_;rintro e w1 ⟨rfl,hb1⟩)
 have hz1:w.heap.size<w1.heap.size:=by have:=hb1.size;simp at this;omega
 have c0:w1.cell? ⟨w.heap.size,0,none⟩=some (.int .i64 9):=by rw [hb1.cell (by simp)];simp
 have c1:w1.cell? ⟨w.heap.size,1,none⟩=some (.int .i64 0):=by rw [hb1.cell (by simp)];simp
 have c2:w1.cell? ⟨w.heap.size,2,none⟩=some (.int .i64 0):=by rw [hb1.cell (by simp)];simp
 have c3:w1.cell? ⟨w.heap.size,3,none⟩=some (.int .i64 0):=by rw [hb1.cell (by simp)];simp
 have c4:w1.cell? ⟨w.heap.size,4,none⟩=some (.int .i64 n):=by rw [hb1.cell (by simp)];simp
 first|(go_region_with (first|(go_at_call 278;refine (qrk _ _).mono ?_;rintro e w2 ⟨rfl,hb2⟩;have d0:=hb2.cell (p:=⟨w.heap.size,0,none⟩) (by simpa using hz1);have d1:=hb2.cell (p:=⟨w.heap.size,1,none⟩) (by simpa using hz1);have d2:=hb2.cell (p:=⟨w.heap.size,2,none⟩) (by simpa using hz1);have d3:=hb2.cell (p:=⟨w.heap.size,3,none⟩) (by simpa using hz1);have d4:=hb2.cell (p:=⟨w.heap.size,4,none⟩) (by simpa using hz1))|(go_at_call 240;refine (quk _ _ _ _).mono ?_;rintro e w3 ⟨rfl,hb3⟩))) | fail
 all_goals
  go_wp2;go_ret;exact ⟨rfl,qa5 hb1 hb2 hb3⟩
theorem qci (r a b n places procs:Int) (w:World) (h5:1<=procs) (h6:procs<=4) (hne:qax 9 0 0 0 n 9 r a b n=false):
  Calls Tryz.prog 225 #[insV 9 r a b n,.int .i64 places,.int .i64 procs] w fun e w'=>e=.returned (.bool (false))/\Below w.heap.size w w':=by
 have he:∀ wx,(binOp .eql 184 (insV 9 0 0 0 n) (insV 9 r a b n)).run Tryz.prog wx=.ok (.bool false) wx:=fun wx=>by rw [qby,hne]
 clear hne
 go_enter Tryz.func225,Tryz.ntmps225
 go_wp2_with (go_at_call 165;refine (qdx _ _ _ _ _).mono ?_;rintro e w1 ⟨rfl,hb1⟩)
 have hz1:w.heap.size<w1.heap.size:=by have:=hb1.size;simp at this;omega
 have c0:w1.cell? ⟨w.heap.size,0,none⟩=some (.int .i64 9):=by rw [hb1.cell (by simp)];simp
 have c1:w1.cell? ⟨w.heap.size,1,none⟩=some (.int .i64 r):=by rw [hb1.cell (by simp)];simp
 have c2:w1.cell? ⟨w.heap.size,2,none⟩=some (.int .i64 a):=by rw [hb1.cell (by simp)];simp
 have c3:w1.cell? ⟨w.heap.size,3,none⟩=some (.int .i64 b):=by rw [hb1.cell (by simp)];simp
 have c4:w1.cell? ⟨w.heap.size,4,none⟩=some (.int .i64 n):=by rw [hb1.cell (by simp)];simp
 first|(go_region_with (go_at_call 278;refine (qrk _ _).mono ?_;rintro e w2 ⟨rfl,hb2⟩;have d0:=hb2.cell (p:=⟨w.heap.size,0,none⟩) (by simpa using hz1);have d1:=hb2.cell (p:=⟨w.heap.size,1,none⟩) (by simpa using hz1);have d2:=hb2.cell (p:=⟨w.heap.size,2,none⟩) (by simpa using hz1);have d3:=hb2.cell (p:=⟨w.heap.size,3,none⟩) (by simpa using hz1);have d4:=hb2.cell (p:=⟨w.heap.size,4,none⟩) (by simpa using hz1))) | fail
 all_goals
  go_wp2;go_ret;exact ⟨rfl,qa0 hb1 hb2⟩
theorem qgg (a n places procs:Int) (w:World) (h5:1<=procs) (h6:procs<=4):
  Calls Tryz.prog 225 #[insV 10 0 a 0 n,.int .i64 places,.int .i64 procs] w fun e w'=>e=.returned (.bool (belB a 4 && belB n places))/\Below w.heap.size w w':=by
 have he:∀ wx,(binOp .eql 184 (insV 10 0 a 0 n) (insV 10 0 a 0 n)).run Tryz.prog wx=.ok (.bool true) wx:=fun wx=>by rw [qby];simp [qax]
 go_enter Tryz.func225,Tryz.ntmps225
 go_wp2_with (go_at_call 165;refine (qd0 _ _ _ _ _).mono ?_;rintro e w1 ⟨rfl,hb1⟩)
 have hz1:w.heap.size<w1.heap.size:=by have:=hb1.size;simp at this;omega
 have c0:w1.cell? ⟨w.heap.size,0,none⟩=some (.int .i64 10):=by rw [hb1.cell (by simp)];simp
 have c1:w1.cell? ⟨w.heap.size,1,none⟩=some (.int .i64 0):=by rw [hb1.cell (by simp)];simp
 have c2:w1.cell? ⟨w.heap.size,2,none⟩=some (.int .i64 a):=by rw [hb1.cell (by simp)];simp
 have c3:w1.cell? ⟨w.heap.size,3,none⟩=some (.int .i64 0):=by rw [hb1.cell (by simp)];simp
 have c4:w1.cell? ⟨w.heap.size,4,none⟩=some (.int .i64 n):=by rw [hb1.cell (by simp)];simp
 first|(go_region_with (first|(go_at_call 279;refine (qro _ _ _).mono ?_;rintro e w2 ⟨rfl,hb2⟩;have d0:=hb2.cell (p:=⟨w.heap.size,0,none⟩) (by simpa using hz1);have d1:=hb2.cell (p:=⟨w.heap.size,1,none⟩) (by simpa using hz1);have d2:=hb2.cell (p:=⟨w.heap.size,2,none⟩) (by simpa using hz1);have d3:=hb2.cell (p:=⟨w.heap.size,3,none⟩) (by simpa using hz1);have d4:=hb2.cell (p:=⟨w.heap.size,4,none⟩) (by simpa using hz1))|(go_at_call 240;refine (qun _ _ _ _ _).mono ?_;rintro e w3 ⟨rfl,hb3⟩))) | fail
 all_goals
  go_wp2;go_ret;exact ⟨rfl,qa5 hb1 hb2 hb3⟩
theorem qde (r a b n places procs:Int) (w:World) (h5:1<=procs) (h6:procs<=4) (hne:qax 10 0 a 0 n 10 r a b n=false):
  Calls Tryz.prog 225 #[insV 10 r a b n,.int .i64 places,.int .i64 procs] w fun e w'=>e=.returned (.bool (false))/\Below w.heap.size w w':=by
 have he:∀ wx,(binOp .eql 184 (insV 10 0 a 0 n) (insV 10 r a b n)).run Tryz.prog wx=.ok (.bool false) wx:=fun wx=>by rw [qby,hne]
 clear hne
 go_enter Tryz.func225,Tryz.ntmps225
 go_wp2_with (go_at_call 165;refine (qd0 _ _ _ _ _).mono ?_;rintro e w1 ⟨rfl,hb1⟩)
 have hz1:w.heap.size<w1.heap.size:=by have:=hb1.size;simp at this;omega
 have c0:w1.cell? ⟨w.heap.size,0,none⟩=some (.int .i64 10):=by rw [hb1.cell (by simp)];simp
 have c1:w1.cell? ⟨w.heap.size,1,none⟩=some (.int .i64 r):=by rw [hb1.cell (by simp)];simp
 have c2:w1.cell? ⟨w.heap.size,2,none⟩=some (.int .i64 a):=by rw [hb1.cell (by simp)];simp
 have c3:w1.cell? ⟨w.heap.size,3,none⟩=some (.int .i64 b):=by rw [hb1.cell (by simp)];simp
 have c4:w1.cell? ⟨w.heap.size,4,none⟩=some (.int .i64 n):=by rw [hb1.cell (by simp)];simp
 first|(go_region_with (go_at_call 279;refine (qro _ _ _).mono ?_;rintro e w2 ⟨rfl,hb2⟩;have d0:=hb2.cell (p:=⟨w.heap.size,0,none⟩) (by simpa using hz1);have d1:=hb2.cell (p:=⟨w.heap.size,1,none⟩) (by simpa using hz1);have d2:=hb2.cell (p:=⟨w.heap.size,2,none⟩) (by simpa using hz1);have d3:=hb2.cell (p:=⟨w.heap.size,3,none⟩) (by simpa using hz1);have d4:=hb2.cell (p:=⟨w.heap.size,4,none⟩) (by simpa using hz1))) | fail
 all_goals
  go_wp2;go_ret;exact ⟨rfl,qa0 hb1 hb2⟩
