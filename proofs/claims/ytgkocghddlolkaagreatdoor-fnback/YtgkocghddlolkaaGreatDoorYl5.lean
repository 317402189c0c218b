import Derived.Test.YtgkocghddlolkaaGreatDoorYl1
import Derived.Deep.RegionWith
namespace Go.Proofs.YtgkocghddlolkaaGreatDoor
open Go.Proofs.Tryz
set_option maxRecDepth 100000
set_option maxHeartbeats 1000000
open Go.RowKit
theorem qge (n places procs:Int) (w:World) (h5:1<=procs) (h6:procs<=4):
  Calls prog 100 #[insV 9 0 0 0 n,.int .i64 places,.int .i64 procs] w (rB w (.bool (belB n places))):=by
 have he:∀ wx,(binOp .eql 77 (insV 9 0 0 0 n) (insV 9 0 0 0 n)).run prog wx=.ok (.bool true) wx:=fun wx=>by rw [qb3];simp [qa6]
 go_enter func100,ntmps100
 go_wp2_with (go_at_call 115;refine (qee _ _ _ _ _).mono ?_;rintro e w1 ⟨rfl,hb1⟩)
 have hz1:w.heap.size<w1.heap.size:=by have:=hb1.size;simp at this;omega
 have c0:w1.cell? (aQ w.heap.size 0)=some (.int .i64 9):=by rw [hb1.cell (by simp)];simp
 have c1:w1.cell? (aQ w.heap.size 1)=some (.int .i64 0):=by rw [hb1.cell (by simp)];simp
 have c2:w1.cell? (aQ w.heap.size 2)=some (.int .i64 0):=by rw [hb1.cell (by simp)];simp
 have c3:w1.cell? (aQ w.heap.size 3)=some (.int .i64 0):=by rw [hb1.cell (by simp)];simp
 have c4:w1.cell? (aQ w.heap.size 4)=some (.int .i64 n):=by rw [hb1.cell (by simp)];simp
 first|(go_region_with (first|(go_at_call 193;refine (qn8 _ _).mono ?_;rintro e w2 ⟨rfl,hb2⟩;have d0:=hb2.cell (p:=(aQ w.heap.size 0)) (by simpa using hz1);have d1:=hb2.cell (p:=(aQ w.heap.size 1)) (by simpa using hz1);have d2:=hb2.cell (p:=(aQ w.heap.size 2)) (by simpa using hz1);have d3:=hb2.cell (p:=(aQ w.heap.size 3)) (by simpa using hz1);have d4:=hb2.cell (p:=(aQ w.heap.size 4)) (by simpa using hz1))|(go_at_call 116;refine (qqx _ _ _ _).mono ?_;rintro e w3 ⟨rfl,hb3⟩))) | fail
 all_goals
  go_wp2;go_ret;exact ⟨rfl,qbf hb1 hb2 hb3⟩
theorem qcj (r a b n places procs:Int) (w:World) (h5:1<=procs) (h6:procs<=4) (hne:qa6 9 0 0 0 n 9 r a b n=false):
  Calls prog 100 #[insV 9 r a b n,.int .i64 places,.int .i64 procs] w (rB w (.bool (false))):=by
 have he:∀ wx,(binOp .eql 77 (insV 9 0 0 0 n) (insV 9 r a b n)).run prog wx=.ok (.bool false) wx:=fun wx=>by rw [qb3,hne]
 clear hne
 go_enter func100,ntmps100
 go_wp2_with (go_at_call 115;refine (qee _ _ _ _ _).mono ?_;rintro e w1 ⟨rfl,hb1⟩)
 have hz1:w.heap.size<w1.heap.size:=by have:=hb1.size;simp at this;omega
 have c0:w1.cell? (aQ w.heap.size 0)=some (.int .i64 9):=by rw [hb1.cell (by simp)];simp
 have c1:w1.cell? (aQ w.heap.size 1)=some (.int .i64 r):=by rw [hb1.cell (by simp)];simp
 have c2:w1.cell? (aQ w.heap.size 2)=some (.int .i64 a):=by rw [hb1.cell (by simp)];simp
 have c3:w1.cell? (aQ w.heap.size 3)=some (.int .i64 b):=by rw [hb1.cell (by simp)];simp
 have c4:w1.cell? (aQ w.heap.size 4)=some (.int .i64 n):=by rw [hb1.cell (by simp)];simp
 first|(go_region_with (go_at_call 193;refine (qn8 _ _).mono ?_;rintro e w2 ⟨rfl,hb2⟩;have d0:=hb2.cell (p:=(aQ w.heap.size 0)) (by simpa using hz1);have d1:=hb2.cell (p:=(aQ w.heap.size 1)) (by simpa using hz1);have d2:=hb2.cell (p:=(aQ w.heap.size 2)) (by simpa using hz1);have d3:=hb2.cell (p:=(aQ w.heap.size 3)) (by simpa using hz1);have d4:=hb2.cell (p:=(aQ w.heap.size 4)) (by simpa using hz1))) | fail
 all_goals
  go_wp2;go_ret;exact ⟨rfl,qba hb1 hb2⟩
theorem qgh (a n places procs:Int) (w:World) (h5:1<=procs) (h6:procs<=4):
  Calls prog 100 #[insV 10 0 a 0 n,.int .i64 places,.int .i64 procs] w (rB w (.bool (belB a 4 && belB n places))):=by
 have he:∀ wx,(binOp .eql 77 (insV 10 0 a 0 n) (insV 10 0 a 0 n)).run prog wx=.ok (.bool true) wx:=fun wx=>by rw [qb3];simp [qa6]
 go_enter func100,ntmps100
 go_wp2_with (go_at_call 115;refine (qeh _ _ _ _ _).mono ?_;rintro e w1 ⟨rfl,hb1⟩)
 have hz1:w.heap.size<w1.heap.size:=by have:=hb1.size;simp at this;omega
 have c0:w1.cell? (aQ w.heap.size 0)=some (.int .i64 10):=by rw [hb1.cell (by simp)];simp
 have c1:w1.cell? (aQ w.heap.size 1)=some (.int .i64 0):=by rw [hb1.cell (by simp)];simp
 have c2:w1.cell? (aQ w.heap.size 2)=some (.int .i64 a):=by rw [hb1.cell (by simp)];simp
 have c3:w1.cell? (aQ w.heap.size 3)=some (.int .i64 0):=by rw [hb1.cell (by simp)];simp
 have c4:w1.cell? (aQ w.heap.size 4)=some (.int .i64 n):=by rw [hb1.cell (by simp)];simp
 first|(go_region_with (first|(go_at_call 194;refine (qod _ _ _).mono ?_;rintro e w2 ⟨rfl,hb2⟩;have d0:=hb2.cell (p:=(aQ w.heap.size 0)) (by simpa using hz1);have d1:=hb2.cell (p:=(aQ w.heap.size 1)) (by simpa using hz1);have d2:=hb2.cell (p:=(aQ w.heap.size 2)) (by simpa using hz1);have d3:=hb2.cell (p:=(aQ w.heap.size 3)) (by simpa using hz1);have d4:=hb2.cell (p:=(aQ w.heap.size 4)) (by simpa using hz1))|(go_at_call 116;refine (qq0 _ _ _ _ _).mono ?_;rintro e w3 ⟨rfl,hb3⟩))) | fail
 all_goals
  go_wp2;go_ret;exact ⟨rfl,qbf hb1 hb2 hb3⟩
theorem qdo (r a b n places procs:Int) (w:World) (h5:1<=procs) (h6:procs<=4) (hne:qa6 10 0 a 0 n 10 r a b n=false):
  Calls prog 100 #[insV 10 r a b n,.int .i64 places,.int .i64 procs] w (rB w (.bool (false))):=by
 have he:∀ wx,(binOp .eql 77 (insV 10 0 a 0 n) (insV 10 r a b n)).run prog wx=.ok (.bool false) wx:=fun wx=>by rw [qb3,hne]
 clear hne
 go_enter func100,ntmps100
 go_wp2_with (go_at_call 115;refine (qeh _ _ _ _ _).mono ?_;rintro e w1 ⟨rfl,hb1⟩)
 have hz1:w.heap.size<w1.heap.size:=by have:=hb1.size;simp at this;omega
 have c0:w1.cell? (aQ w.heap.size 0)=some (.int .i64 10):=by rw [hb1.cell (by simp)];simp
 have c1:w1.cell? (aQ w.heap.size 1)=some (.int .i64 r):=by rw [hb1.cell (by simp)];simp
 have c2:w1.cell? (aQ w.heap.size 2)=some (.int .i64 a):=by rw [hb1.cell (by simp)];simp
 have c3:w1.cell? (aQ w.heap.size 3)=some (.int .i64 b):=by rw [hb1.cell (by simp)];simp
 have c4:w1.cell? (aQ w.heap.size 4)=some (.int .i64 n):=by rw [hb1.cell (by simp)];simp
 first|(go_region_with (go_at_call 194;refine (qod _ _ _).mono ?_;rintro e w2 ⟨rfl,hb2⟩;have d0:=hb2.cell (p:=(aQ w.heap.size 0)) (by simpa using hz1);have d1:=hb2.cell (p:=(aQ w.heap.size 1)) (by simpa using hz1);have d2:=hb2.cell (p:=(aQ w.heap.size 2)) (by simpa using hz1);have d3:=hb2.cell (p:=(aQ w.heap.size 3)) (by simpa using hz1);have d4:=hb2.cell (p:=(aQ w.heap.size 4)) (by simpa using hz1))) | fail
 all_goals
  go_wp2;go_ret;exact ⟨rfl,qba hb1 hb2⟩
