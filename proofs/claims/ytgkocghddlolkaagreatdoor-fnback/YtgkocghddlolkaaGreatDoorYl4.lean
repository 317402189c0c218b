import Derived.Test.YtgkocghddlolkaaGreatDoorYl1
import Derived.Deep.RegionWith
namespace Go.Proofs.YtgkocghddlolkaaGreatDoor
open Go.Proofs.Tryz
set_option maxRecDepth 100000
set_option maxHeartbeats 1000000
open Go.RowKit
theorem qgf (a n places procs:Int) (w:World) (h5:1<=procs) (h6:procs<=4):
  Calls prog 100 #[insV 6 0 a 0 n,.int .i64 places,.int .i64 procs] w (rB w (.bool (belB a 4 && belB n procs))):=by
 have he:∀ wx,(binOp .eql 77 (insV 6 0 a 0 n) (insV 6 0 a 0 n)).run prog wx=.ok (.bool true) wx:=fun wx=>by rw [qb3];simp [qa6]
 go_enter func100,ntmps100
 go_wp2_with (go_at_call 115;refine (qef _ _ _ _ _).mono ?_;rintro e w1 ⟨rfl,hb1⟩)
 have hz1:w.heap.size<w1.heap.size:=by have:=hb1.size;simp at this;omega
 have c0:w1.cell? (aQ w.heap.size 0)=some (.int .i64 6):=by rw [hb1.cell (by simp)];simp
 have c1:w1.cell? (aQ w.heap.size 1)=some (.int .i64 0):=by rw [hb1.cell (by simp)];simp
 have c2:w1.cell? (aQ w.heap.size 2)=some (.int .i64 a):=by rw [hb1.cell (by simp)];simp
 have c3:w1.cell? (aQ w.heap.size 3)=some (.int .i64 0):=by rw [hb1.cell (by simp)];simp
 have c4:w1.cell? (aQ w.heap.size 4)=some (.int .i64 n):=by rw [hb1.cell (by simp)];simp
 first|(go_region_with (first|(go_at_call 190;refine (qn9 _ _ _).mono ?_;rintro e w2 ⟨rfl,hb2⟩;have d0:=hb2.cell (p:=(aQ w.heap.size 0)) (by simpa using hz1);have d1:=hb2.cell (p:=(aQ w.heap.size 1)) (by simpa using hz1);have d2:=hb2.cell (p:=(aQ w.heap.size 2)) (by simpa using hz1);have d3:=hb2.cell (p:=(aQ w.heap.size 3)) (by simpa using hz1);have d4:=hb2.cell (p:=(aQ w.heap.size 4)) (by simpa using hz1))|(go_at_call 116;refine (qqy _ _ _ _ _).mono ?_;rintro e w3 ⟨rfl,hb3⟩))) | fail
 all_goals
  go_wp2;go_ret;exact ⟨rfl,qbf hb1 hb2 hb3⟩
theorem qdm (r a b n places procs:Int) (w:World) (h5:1<=procs) (h6:procs<=4) (hne:qa6 6 0 a 0 n 6 r a b n=false):
  Calls prog 100 #[insV 6 r a b n,.int .i64 places,.int .i64 procs] w (rB w (.bool (false))):=by
 have he:∀ wx,(binOp .eql 77 (insV 6 0 a 0 n) (insV 6 r a b n)).run prog wx=.ok (.bool false) wx:=fun wx=>by rw [qb3,hne]
 clear hne
 go_enter func100,ntmps100
 go_wp2_with (go_at_call 115;refine (qef _ _ _ _ _).mono ?_;rintro e w1 ⟨rfl,hb1⟩)
 have hz1:w.heap.size<w1.heap.size:=by have:=hb1.size;simp at this;omega
 have c0:w1.cell? (aQ w.heap.size 0)=some (.int .i64 6):=by rw [hb1.cell (by simp)];simp
 have c1:w1.cell? (aQ w.heap.size 1)=some (.int .i64 r):=by rw [hb1.cell (by simp)];simp
 have c2:w1.cell? (aQ w.heap.size 2)=some (.int .i64 a):=by rw [hb1.cell (by simp)];simp
 have c3:w1.cell? (aQ w.heap.size 3)=some (.int .i64 b):=by rw [hb1.cell (by simp)];simp
 have c4:w1.cell? (aQ w.heap.size 4)=some (.int .i64 n):=by rw [hb1.cell (by simp)];simp
 first|(go_region_with (go_at_call 190;refine (qn9 _ _ _).mono ?_;rintro e w2 ⟨rfl,hb2⟩;have d0:=hb2.cell (p:=(aQ w.heap.size 0)) (by simpa using hz1);have d1:=hb2.cell (p:=(aQ w.heap.size 1)) (by simpa using hz1);have d2:=hb2.cell (p:=(aQ w.heap.size 2)) (by simpa using hz1);have d3:=hb2.cell (p:=(aQ w.heap.size 3)) (by simpa using hz1);have d4:=hb2.cell (p:=(aQ w.heap.size 4)) (by simpa using hz1))) | fail
 all_goals
  go_wp2;go_ret;exact ⟨rfl,qba hb1 hb2⟩
theorem qgg (r n places procs:Int) (w:World) (h5:1<=procs) (h6:procs<=4):
  Calls prog 100 #[insV 7 r 0 0 n,.int .i64 places,.int .i64 procs] w (rB w (.bool (belB r 4 && ((n == 9) || belB n procs)))):=by
 have he:∀ wx,(binOp .eql 77 (insV 7 r 0 0 n) (insV 7 r 0 0 n)).run prog wx=.ok (.bool true) wx:=fun wx=>by rw [qb3];simp [qa6]
 go_enter func100,ntmps100
 go_wp2_with (go_at_call 115;refine (qeg _ _ _ _ _).mono ?_;rintro e w1 ⟨rfl,hb1⟩)
 have hz1:w.heap.size<w1.heap.size:=by have:=hb1.size;simp at this;omega
 have c0:w1.cell? (aQ w.heap.size 0)=some (.int .i64 7):=by rw [hb1.cell (by simp)];simp
 have c1:w1.cell? (aQ w.heap.size 1)=some (.int .i64 r):=by rw [hb1.cell (by simp)];simp
 have c2:w1.cell? (aQ w.heap.size 2)=some (.int .i64 0):=by rw [hb1.cell (by simp)];simp
 have c3:w1.cell? (aQ w.heap.size 3)=some (.int .i64 0):=by rw [hb1.cell (by simp)];simp
 have c4:w1.cell? (aQ w.heap.size 4)=some (.int .i64 n):=by rw [hb1.cell (by simp)];simp
 first|(go_region_with (first|(go_at_call 191;refine (qob _ _ _).mono ?_;rintro e w2 ⟨rfl,hb2⟩;have d0:=hb2.cell (p:=(aQ w.heap.size 0)) (by simpa using hz1);have d1:=hb2.cell (p:=(aQ w.heap.size 1)) (by simpa using hz1);have d2:=hb2.cell (p:=(aQ w.heap.size 2)) (by simpa using hz1);have d3:=hb2.cell (p:=(aQ w.heap.size 3)) (by simpa using hz1);have d4:=hb2.cell (p:=(aQ w.heap.size 4)) (by simpa using hz1))|(go_at_call 116;refine (qqz _ _ _ _ _).mono ?_;rintro e w3 ⟨rfl,hb3⟩))) | fail
 all_goals
  go_wp2;go_ret;exact ⟨rfl,qbf hb1 hb2 hb3⟩
theorem qdn (r a b n places procs:Int) (w:World) (h5:1<=procs) (h6:procs<=4) (hne:qa6 7 r 0 0 n 7 r a b n=false):
  Calls prog 100 #[insV 7 r a b n,.int .i64 places,.int .i64 procs] w (rB w (.bool (false))):=by
 have he:∀ wx,(binOp .eql 77 (insV 7 r 0 0 n) (insV 7 r a b n)).run prog wx=.ok (.bool false) wx:=fun wx=>by rw [qb3,hne]
 clear hne
 go_enter func100,ntmps100
 go_wp2_with (go_at_call 115;refine (qeg _ _ _ _ _).mono ?_;rintro e w1 ⟨rfl,hb1⟩)
 have hz1:w.heap.size<w1.heap.size:=by have:=hb1.size;simp at this;omega
 have c0:w1.cell? (aQ w.heap.size 0)=some (.int .i64 7):=by rw [hb1.cell (by simp)];simp
 have c1:w1.cell? (aQ w.heap.size 1)=some (.int .i64 r):=by rw [hb1.cell (by simp)];simp
 have c2:w1.cell? (aQ w.heap.size 2)=some (.int .i64 a):=by rw [hb1.cell (by simp)];simp
 have c3:w1.cell? (aQ w.heap.size 3)=some (.int .i64 b):=by rw [hb1.cell (by simp)];simp
 have c4:w1.cell? (aQ w.heap.size 4)=some (.int .i64 n):=by rw [hb1.cell (by simp)];simp
 first|(go_region_with (go_at_call 191;refine (qob _ _ _).mono ?_;rintro e w2 ⟨rfl,hb2⟩;have d0:=hb2.cell (p:=(aQ w.heap.size 0)) (by simpa using hz1);have d1:=hb2.cell (p:=(aQ w.heap.size 1)) (by simpa using hz1);have d2:=hb2.cell (p:=(aQ w.heap.size 2)) (by simpa using hz1);have d3:=hb2.cell (p:=(aQ w.heap.size 3)) (by simpa using hz1);have d4:=hb2.cell (p:=(aQ w.heap.size 4)) (by simpa using hz1))) | fail
 all_goals
  go_wp2;go_ret;exact ⟨rfl,qba hb1 hb2⟩
theorem qfx (a places procs:Int) (w:World) (h5:1<=procs) (h6:procs<=4):
  Calls prog 100 #[insV 8 0 a 0 0,.int .i64 places,.int .i64 procs] w (rB w (.bool (belB a 4))):=by
 have he:∀ wx,(binOp .eql 77 (insV 8 0 a 0 0) (insV 8 0 a 0 0)).run prog wx=.ok (.bool true) wx:=fun wx=>by rw [qb3];simp [qa6]
 go_enter func100,ntmps100
 go_wp2_with (go_at_call 115;refine (qd2 _ _ _ _ _).mono ?_;rintro e w1 ⟨rfl,hb1⟩)
 have hz1:w.heap.size<w1.heap.size:=by have:=hb1.size;simp at this;omega
 have c0:w1.cell? (aQ w.heap.size 0)=some (.int .i64 8):=by rw [hb1.cell (by simp)];simp
 have c1:w1.cell? (aQ w.heap.size 1)=some (.int .i64 0):=by rw [hb1.cell (by simp)];simp
 have c2:w1.cell? (aQ w.heap.size 2)=some (.int .i64 a):=by rw [hb1.cell (by simp)];simp
 have c3:w1.cell? (aQ w.heap.size 3)=some (.int .i64 0):=by rw [hb1.cell (by simp)];simp
 have c4:w1.cell? (aQ w.heap.size 4)=some (.int .i64 0):=by rw [hb1.cell (by simp)];simp
 first|(go_region_with (first|(go_at_call 192;refine (qlb _ _).mono ?_;rintro e w2 ⟨rfl,hb2⟩;have d0:=hb2.cell (p:=(aQ w.heap.size 0)) (by simpa using hz1);have d1:=hb2.cell (p:=(aQ w.heap.size 1)) (by simpa using hz1);have d2:=hb2.cell (p:=(aQ w.heap.size 2)) (by simpa using hz1);have d3:=hb2.cell (p:=(aQ w.heap.size 3)) (by simpa using hz1);have d4:=hb2.cell (p:=(aQ w.heap.size 4)) (by simpa using hz1))|(go_at_call 116;refine (qpg _ _ _ _).mono ?_;rintro e w3 ⟨rfl,hb3⟩))) | fail
 all_goals
  go_wp2;go_ret;exact ⟨rfl,qbf hb1 hb2 hb3⟩
theorem qcc (r a b n places procs:Int) (w:World) (h5:1<=procs) (h6:procs<=4) (hne:qa6 8 0 a 0 0 8 r a b n=false):
  Calls prog 100 #[insV 8 r a b n,.int .i64 places,.int .i64 procs] w (rB w (.bool (false))):=by
 have he:∀ wx,(binOp .eql 77 (insV 8 0 a 0 0) (insV 8 r a b n)).run prog wx=.ok (.bool false) wx:=fun wx=>by rw [qb3,hne]
 clear hne
 go_enter func100,ntmps100
 go_wp2_with (go_at_call 115;refine (qd2 _ _ _ _ _).mono ?_;rintro e w1 ⟨rfl,hb1⟩)
 have hz1:w.heap.size<w1.heap.size:=by have:=hb1.size;simp at this;omega
 have c0:w1.cell? (aQ w.heap.size 0)=some (.int .i64 8):=by rw [hb1.cell (by simp)];simp
 have c1:w1.cell? (aQ w.heap.size 1)=some (.int .i64 r):=by rw [hb1.cell (by simp)];simp
 have c2:w1.cell? (aQ w.heap.size 2)=some (.int .i64 a):=by rw [hb1.cell (by simp)];simp
 have c3:w1.cell? (aQ w.heap.size 3)=some (.int .i64 b):=by rw [hb1.cell (by simp)];simp
 have c4:w1.cell? (aQ w.heap.size 4)=some (.int .i64 n):=by rw [hb1.cell (by simp)];simp
 first|(go_region_with (go_at_call 192;refine (qlb _ _).mono ?_;rintro e w2 ⟨rfl,hb2⟩;have d0:=hb2.cell (p:=(aQ w.heap.size 0)) (by simpa using hz1);have d1:=hb2.cell (p:=(aQ w.heap.size 1)) (by simpa using hz1);have d2:=hb2.cell (p:=(aQ w.heap.size 2)) (by simpa using hz1);have d3:=hb2.cell (p:=(aQ w.heap.size 3)) (by simpa using hz1);have d4:=hb2.cell (p:=(aQ w.heap.size 4)) (by simpa using hz1))) | fail
 all_goals
  go_wp2;go_ret;exact ⟨rfl,qba hb1 hb2⟩
